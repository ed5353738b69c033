/- What impl.afterStep answers. -/
import Derived.Test.YtfdbnolifimnhabDoorVal3
import Derived.Test.YtfdbnolifimnhabDoorCopy
import Derived.Deep.RegionHeld3
namespace Go.Proofs.YtfdbnolifimnhabDoor.L3
open Go Go.RowKit Go.Proofs.YtfdbnolifimnhabDoor.Mem Go.Proofs.YtfdbnolifimnhabDoor.Own Go.Proofs.YtfdbnolifimnhabDoor.L1 Go.Proofs.YtfdbnolifimnhabDoor.Bit
theorem own_more {w : World} {b size n : Nat} {e : TypeId} {v : Value} {xs : List Value} (h : w.ownsRow b e size v n xs) (o : Obj) : (w.alloc o).ownsRow b e size v n xs := own_below h ((Below.refl _ _).alloc (Nat.le_refl _) o)
theorem afterStep_ret {Q : Ending → World → Prop} {a : Act} {w' : World} {g : Nat} {v0 v1 v2 v3 : Value} (hd : a.defers = []) (hp : a.tmps[4]?.getD undef = .pointer (some ⟨g, 0, none⟩))
    (z0 : w'.cell? ⟨g, 0, none⟩ = some v0) (z1 : w'.cell? ⟨g, 1, none⟩ = some v1) (z2 : w'.cell? ⟨g, 2, none⟩ = some v2) (z3 : w'.cell? ⟨g, 3, none⟩ = some v3) (hQ : Q (.returned (.agg #[v0, v1, v2, v3])) w') :
    bodyPost Tryd.prog Tryd.f55 Q .ret a w' := by
  refine bodyPost_ret (v := .agg #[v0, v1, v2, v3]) ?_ hd hQ
  simp [results, Tryd.results55, go_sem, hp, z0, z1, z2, z3]
set_option maxRecDepth 100000 in
set_option maxHeartbeats 8000000 in
theorem afterStep_halt (A A' : Option Addr) (n c c' : Nat) (xs : List Ins) (rs : List Int) (k : Nat) (zero : Bool) (xa xb xn : Int) (w : World) (hr : Reads w w.heap.size 4 A n (FL xs)) (hn : n ≤ 1048576) (hr' : Reads w w.heap.size 1 A' 4 (I rs))
    (hk : k < n) (hx : xs[k]? = some ⟨0, xa, xb, xn⟩) (hok : Ok ⟨0, xa, xb, xn⟩) (hrs : ∀ z ∈ rs, 0 ≤ z ∧ z ≤ 65535)  :
    Calls Tryd.prog 55 #[.slice A n c, .agg #[.slice A' 4 c', .int .i64 k, .bool zero, .bool false]] w fun e w' => ∃ gg cc, e = .returned (.agg #[.slice (some ⟨gg, 0, none⟩) 4 cc, .int .i64 (stepOf xs ⟨rs, k, zero, false⟩).place, .bool (stepOf xs ⟨rs, k, zero, false⟩).zero, .bool (stepOf xs ⟨rs, k, zero, false⟩).stopped]) ∧
      w'.ownsRow w.heap.size 3 1 (.slice (some ⟨gg, 0, none⟩) 4 cc) 4 (I (stepOf xs ⟨rs, k, zero, false⟩).r) ∧ Below w.heap.size w w' := by
  obtain ⟨b2, o2, rfl, hb2, _⟩ := hr'.2 (by omega)
  have hL : xs.length = n := reads_len hr
  have hget : xs.getD ((k : Int).toNat) default = ⟨0, xa, xb, xn⟩ := by rw [Int.toNat_natCast, List.getD, hx]; rfl
  have hst : stepOf xs ⟨rs, k, zero, false⟩ = ⟨rs, k, zero, true⟩ := by
    unfold stepOf nextOf
    simp only [hget]
    simp
  have HST := Lib.hid hst
  clear hst
  have hb0 := below_more (below_more (Below.refl w.heap.size w) (.cells #[.slice (some ⟨b2, o2, none⟩) 4 c', .int .i64 k, .bool zero, .bool false] 40)) (.cells #[.slice none 0 0, .int .i64 0, .bool false, .bool false] 40)
  have HR1 := Lib.hid ((hr'.below hb0).more hb0.size)
  have HP1 := Lib.hid (hr.below hb0)
  have HX := Lib.hid hx
  have HRS := Lib.hid hrs
  have hlen := hr'.len
  rw [I_len] at hlen
  have HLEN := Lib.hid hlen
  clear hr hr' hb0 hx hrs hget hlen
  have _ := hok
  go_enter Tryd.func55, Tryd.ntmps55
  go_wp2_with fail
  refine (clone_some b2 o2 4 c' _ rs _ HR1.out (by omega) (by omega)).mono ?_
  rintro e w1 ⟨gg, cc, rfl, hown, hb⟩
  have hG := Blk.kept hb (Blk.alloc (Blk.new _ _ _) _)
  have hR := Blk.kept hb (Blk.new _ _ _)
  rw [size1] at hR
  have hgg := (hown.lt gg rfl).1
  have hgl := (hown.lt gg rfl).2
  rw [size1, size1] at hgg
  have HO := Lib.hid (own_mono hown (b' := w.heap.size) (by rw [size1, size1]; omega))
  have hs : w.heap.size + 2 ≤ w1.heap.size := by have := hb.size; rw [size1, size1] at this; omega
  have hs1 : w.heap.size < w1.heap.size := by omega
  have hs2 : w.heap.size + 1 < w1.heap.size := by omega
  have HW := Lib.hid (below_then (below_more (below_more (Below.refl w.heap.size w) _) _) hb)
  have hP := HP1.out.keep (w' := w1) (fun p hp => hb.cell (by rw [size1, size1]; omega))
  have HR := Lib.hid hR
  have HG := Lib.hid hG
  obtain ⟨b1, o1, y, rfl, hb1, hy, c0, c1, c2, c3⟩ := ins_at hP hk
  have hb3 : b1 < w1.heap.size := by omega
  obtain rfl : y = ⟨0, xa, xb, xn⟩ := by rw [HX.out] at hy; exact (Option.some.inj hy).symm
  clear hb hown hG hR hP hy HR1 HP1
  have k0 := HG.out.cell 0 _ rfl
  have k1 := HG.out.cell 1 _ rfl
  have k2 := HG.out.cell 2 _ rfl
  have k3 := HG.out.cell 3 _ rfl
  have r0 := HR.out.cell 0 _ rfl
  have r1 := HR.out.cell 1 _ rfl
  have r2 := HR.out.cell 2 _ rfl
  have r3 := HR.out.cell 3 _ rfl
  have fk0 := HG.out.free 0
  have fk1 := HG.out.free 1
  have fk2 := HG.out.free 2
  have fk3 := HG.out.free 3
  have fr0 := HR.out.free 0
  have fr1 := HR.out.free 1
  have fr2 := HR.out.free 2
  have fr3 := HR.out.free 3
  have hnG : (Value.slice (some ⟨gg, 0, none⟩) 4 cc).ownBlock ≠ some w.heap.size := by
    intro e
    injection e with e
    simp only at e
    omega
  have hnR : (Value.slice (some ⟨gg, 0, none⟩) 4 cc).ownBlock ≠ some (w.heap.size + 1) := by
    intro e
    injection e with e
    simp only at e
    omega
  go_wp2_with fail
  refine (isBelow_yes k n (by omega) (by omega) _).mono ?_
  rintro e w2 ⟨rfl, hw⟩
  subst hw
  go_wp2_with fail
  have hZ := (Blk.alloc (Blk.set (Blk.set (Blk.set (Blk.set (Blk.other (Blk.other (Blk.other HR.out (.slice (some ⟨gg, 0, none⟩) 4 cc) (g' := w.heap.size) (j := 0) (by omega)) (.bool true) (g' := w.heap.size) (j := 3) (by omega)) (.int .i64 k) (g' := w.heap.size) (j := 1) (by omega)) 0 (.slice (some ⟨gg, 0, none⟩) 4 cc)) 1 (.int .i64 k)) 2 (.bool zero)) 3 (.bool true)) (.cells #[.int .i64 0, .int .i64 xa, .int .i64 xb, .int .i64 xn] 25))
  have hY := (own_more (own_set (own_set (own_set (own_set (own_set (own_set (own_set HO.out (.slice (some ⟨gg, 0, none⟩) 4 cc) (g := w.heap.size) (j := 0) hnG) (.bool true) (g := w.heap.size) (j := 3) hnG) (.int .i64 k) (g := w.heap.size) (j := 1) hnG) (.slice (some ⟨gg, 0, none⟩) 4 cc) (g := w.heap.size + 1) (j := 0) hnR) (.int .i64 k) (g := w.heap.size + 1) (j := 1) hnR) (.bool zero) (g := w.heap.size + 1) (j := 2) hnR) (.bool true) (g := w.heap.size + 1) (j := 3) hnR) (.cells #[.int .i64 0, .int .i64 xa, .int .i64 xb, .int .i64 xn] 25))
  have hX := (below_more (below_set (below_set (below_set (below_set (below_set (below_set (below_set HW.out (g := w.heap.size) (j := 0) (by omega) (.slice (some ⟨gg, 0, none⟩) 4 cc)) (g := w.heap.size) (j := 3) (by omega) (.bool true)) (g := w.heap.size) (j := 1) (by omega) (.int .i64 k)) (g := w.heap.size + 1) (j := 0) (by omega) (.slice (some ⟨gg, 0, none⟩) 4 cc)) (g := w.heap.size + 1) (j := 1) (by omega) (.int .i64 k)) (g := w.heap.size + 1) (j := 2) (by omega) (.bool zero)) (g := w.heap.size + 1) (j := 3) (by omega) (.bool true)) (.cells #[.int .i64 0, .int .i64 xa, .int .i64 xb, .int .i64 xn] 25))
  have HZ := Lib.hid hZ
  have HY := Lib.hid hY
  have HXX := Lib.hid hX
  clear hZ hY hX k0 k1 k2 k3 r0 r1 r2 r3 fk0 fk1 fk2 fk3 fr0 fr1 fr2 fr3
  revert HZ HY HXX
  generalize ((((((((w1.setCell _ _).setCell _ _).setCell _ _).setCell _ _).setCell _ _).setCell _ _).setCell _ _).alloc _) = wz
  intro HZ HY HXX
  have z0 : wz.cell? ⟨w.heap.size + 1, 0, none⟩ = some (.slice (some ⟨gg, 0, none⟩) 4 cc) := HZ.out.cell 0 _ rfl
  have z1 : wz.cell? ⟨w.heap.size + 1, 1, none⟩ = some (.int .i64 k) := HZ.out.cell 1 _ rfl
  have z2 : wz.cell? ⟨w.heap.size + 1, 2, none⟩ = some (.bool zero) := HZ.out.cell 2 _ rfl
  have z3 : wz.cell? ⟨w.heap.size + 1, 3, none⟩ = some (.bool true) := HZ.out.cell 3 _ rfl
  refine afterStep_ret rfl rfl z0 z1 z2 z3 ⟨gg, cc, ?_, ?_, HXX.out⟩
  · rw [HST.out]
  · rw [HST.out]; exact HY.out
set_option maxRecDepth 100000 in
set_option maxHeartbeats 8000000 in
theorem afterStep_trap (A A' : Option Addr) (n c c' : Nat) (xs : List Ins) (rs : List Int) (k : Nat) (zero : Bool) (xa xb xn : Int) (w : World) (hr : Reads w w.heap.size 4 A n (FL xs)) (hn : n ≤ 1048576) (hr' : Reads w w.heap.size 1 A' 4 (I rs))
    (hk : k < n) (hx : xs[k]? = some ⟨9, xa, xb, xn⟩) (hok : Ok ⟨9, xa, xb, xn⟩) (hrs : ∀ z ∈ rs, 0 ≤ z ∧ z ≤ 65535)  :
    Calls Tryd.prog 55 #[.slice A n c, .agg #[.slice A' 4 c', .int .i64 k, .bool zero, .bool false]] w fun e w' => ∃ gg cc, e = .returned (.agg #[.slice (some ⟨gg, 0, none⟩) 4 cc, .int .i64 (stepOf xs ⟨rs, k, zero, false⟩).place, .bool (stepOf xs ⟨rs, k, zero, false⟩).zero, .bool (stepOf xs ⟨rs, k, zero, false⟩).stopped]) ∧
      w'.ownsRow w.heap.size 3 1 (.slice (some ⟨gg, 0, none⟩) 4 cc) 4 (I (stepOf xs ⟨rs, k, zero, false⟩).r) ∧ Below w.heap.size w w' := by
  obtain ⟨b2, o2, rfl, hb2, _⟩ := hr'.2 (by omega)
  have hL : xs.length = n := reads_len hr
  have hget : xs.getD ((k : Int).toNat) default = ⟨9, xa, xb, xn⟩ := by rw [Int.toNat_natCast, List.getD, hx]; rfl
  have HGET := Lib.hid hget
  have HL := Lib.hid hL
  have hxn := hok.2.2.2.1
  simp only at hxn
  have hb0 := below_more (below_more (Below.refl w.heap.size w) (.cells #[.slice (some ⟨b2, o2, none⟩) 4 c', .int .i64 k, .bool zero, .bool false] 40)) (.cells #[.slice none 0 0, .int .i64 0, .bool false, .bool false] 40)
  have HR1 := Lib.hid ((hr'.below hb0).more hb0.size)
  have HP1 := Lib.hid (hr.below hb0)
  have HX := Lib.hid hx
  have HRS := Lib.hid hrs
  have hlen := hr'.len
  rw [I_len] at hlen
  have HLEN := Lib.hid hlen
  clear hr hr' hb0 hx hrs hget hlen
  have _ := hok
  go_enter Tryd.func55, Tryd.ntmps55
  go_wp2_with fail
  refine (clone_some b2 o2 4 c' _ rs _ HR1.out (by omega) (by omega)).mono ?_
  rintro e w1 ⟨gg, cc, rfl, hown, hb⟩
  have hG := Blk.kept hb (Blk.alloc (Blk.new _ _ _) _)
  have hR := Blk.kept hb (Blk.new _ _ _)
  rw [size1] at hR
  have hgg := (hown.lt gg rfl).1
  have hgl := (hown.lt gg rfl).2
  rw [size1, size1] at hgg
  have HO := Lib.hid (own_mono hown (b' := w.heap.size) (by rw [size1, size1]; omega))
  have hs : w.heap.size + 2 ≤ w1.heap.size := by have := hb.size; rw [size1, size1] at this; omega
  have hs1 : w.heap.size < w1.heap.size := by omega
  have hs2 : w.heap.size + 1 < w1.heap.size := by omega
  have HW := Lib.hid (below_then (below_more (below_more (Below.refl w.heap.size w) _) _) hb)
  have hP := HP1.out.keep (w' := w1) (fun p hp => hb.cell (by rw [size1, size1]; omega))
  have HR := Lib.hid hR
  have HG := Lib.hid hG
  obtain ⟨b1, o1, y, rfl, hb1, hy, c0, c1, c2, c3⟩ := ins_at hP hk
  have hb3 : b1 < w1.heap.size := by omega
  obtain rfl : y = ⟨9, xa, xb, xn⟩ := by rw [HX.out] at hy; exact (Option.some.inj hy).symm
  clear hb hown hG hR hP hy HR1 HP1
  have k0 := HG.out.cell 0 _ rfl
  have k1 := HG.out.cell 1 _ rfl
  have k2 := HG.out.cell 2 _ rfl
  have k3 := HG.out.cell 3 _ rfl
  have r0 := HR.out.cell 0 _ rfl
  have r1 := HR.out.cell 1 _ rfl
  have r2 := HR.out.cell 2 _ rfl
  have r3 := HR.out.cell 3 _ rfl
  have fk0 := HG.out.free 0
  have fk1 := HG.out.free 1
  have fk2 := HG.out.free 2
  have fk3 := HG.out.free 3
  have fr0 := HR.out.free 0
  have fr1 := HR.out.free 1
  have fr2 := HR.out.free 2
  have fr3 := HR.out.free 3
  have hnG : (Value.slice (some ⟨gg, 0, none⟩) 4 cc).ownBlock ≠ some w.heap.size := by
    intro e
    injection e with e
    simp only at e
    omega
  have hnR : (Value.slice (some ⟨gg, 0, none⟩) 4 cc).ownBlock ≠ some (w.heap.size + 1) := by
    intro e
    injection e with e
    simp only at e
    omega
  by_cases hnx : (k : Int) + 1 < (n : Int)
  ·
    have hst : stepOf xs ⟨rs, k, zero, false⟩ = ⟨rs, (k : Int) + 1, zero, true⟩ := by
      have hnx2 : ¬ ((n : Int) ≤ (k : Int) + 1) := by omega
      unfold stepOf nextOf
      simp only [HGET.out, HL.out]
      simp [hnx, hnx2]
    have HST := Lib.hid hst
    clear hst
    go_wp2_with fail
    refine (isBelow_yes ((k : Int) + 1) n (by omega) hnx _).mono ?_
    rintro e w2 ⟨rfl, hw⟩
    subst hw
    go_wp2_with fail
    have hZ := (Blk.alloc (Blk.set (Blk.set (Blk.set (Blk.set (Blk.other (Blk.other (Blk.other HR.out (.slice (some ⟨gg, 0, none⟩) 4 cc) (g' := w.heap.size) (j := 0) (by omega)) (.bool true) (g' := w.heap.size) (j := 3) (by omega)) (.int .i64 ((k : Int) + 1)) (g' := w.heap.size) (j := 1) (by omega)) 0 (.slice (some ⟨gg, 0, none⟩) 4 cc)) 1 (.int .i64 ((k : Int) + 1))) 2 (.bool zero)) 3 (.bool true)) (.cells #[.int .i64 9, .int .i64 xa, .int .i64 xb, .int .i64 xn] 25))
    have hY := (own_more (own_set (own_set (own_set (own_set (own_set (own_set (own_set HO.out (.slice (some ⟨gg, 0, none⟩) 4 cc) (g := w.heap.size) (j := 0) hnG) (.bool true) (g := w.heap.size) (j := 3) hnG) (.int .i64 ((k : Int) + 1)) (g := w.heap.size) (j := 1) hnG) (.slice (some ⟨gg, 0, none⟩) 4 cc) (g := w.heap.size + 1) (j := 0) hnR) (.int .i64 ((k : Int) + 1)) (g := w.heap.size + 1) (j := 1) hnR) (.bool zero) (g := w.heap.size + 1) (j := 2) hnR) (.bool true) (g := w.heap.size + 1) (j := 3) hnR) (.cells #[.int .i64 9, .int .i64 xa, .int .i64 xb, .int .i64 xn] 25))
    have hX := (below_more (below_set (below_set (below_set (below_set (below_set (below_set (below_set HW.out (g := w.heap.size) (j := 0) (by omega) (.slice (some ⟨gg, 0, none⟩) 4 cc)) (g := w.heap.size) (j := 3) (by omega) (.bool true)) (g := w.heap.size) (j := 1) (by omega) (.int .i64 ((k : Int) + 1))) (g := w.heap.size + 1) (j := 0) (by omega) (.slice (some ⟨gg, 0, none⟩) 4 cc)) (g := w.heap.size + 1) (j := 1) (by omega) (.int .i64 ((k : Int) + 1))) (g := w.heap.size + 1) (j := 2) (by omega) (.bool zero)) (g := w.heap.size + 1) (j := 3) (by omega) (.bool true)) (.cells #[.int .i64 9, .int .i64 xa, .int .i64 xb, .int .i64 xn] 25))
    have HZ := Lib.hid hZ
    have HY := Lib.hid hY
    have HXX := Lib.hid hX
    clear hZ hY hX k0 k1 k2 k3 r0 r1 r2 r3 fk0 fk1 fk2 fk3 fr0 fr1 fr2 fr3
    revert HZ HY HXX
    generalize ((((((((w1.setCell _ _).setCell _ _).setCell _ _).setCell _ _).setCell _ _).setCell _ _).setCell _ _).alloc _) = wz
    intro HZ HY HXX
    have z0 : wz.cell? ⟨w.heap.size + 1, 0, none⟩ = some (.slice (some ⟨gg, 0, none⟩) 4 cc) := HZ.out.cell 0 _ rfl
    have z1 : wz.cell? ⟨w.heap.size + 1, 1, none⟩ = some (.int .i64 ((k : Int) + 1)) := HZ.out.cell 1 _ rfl
    have z2 : wz.cell? ⟨w.heap.size + 1, 2, none⟩ = some (.bool zero) := HZ.out.cell 2 _ rfl
    have z3 : wz.cell? ⟨w.heap.size + 1, 3, none⟩ = some (.bool true) := HZ.out.cell 3 _ rfl
    refine afterStep_ret rfl rfl z0 z1 z2 z3 ⟨gg, cc, ?_, ?_, HXX.out⟩
    · rw [HST.out]
    · rw [HST.out]; exact HY.out
  ·
    have hst : stepOf xs ⟨rs, k, zero, false⟩ = ⟨rs, k, zero, true⟩ := by
      have hnx2 : (n : Int) ≤ (k : Int) + 1 := by omega
      unfold stepOf nextOf
      simp only [HGET.out, HL.out]
      simp [hnx, hnx2]
    have HST := Lib.hid hst
    clear hst
    go_wp2_with fail
    have hGv := (Blk.alloc (Blk.set (Blk.set HG.out 0 (.slice (some ⟨gg, 0, none⟩) 4 cc)) 3 (.bool true)) (.cells #[.int .i64 9, .int .i64 xa, .int .i64 xb, .int .i64 xn] 25))
    have hRv := (Blk.alloc (Blk.other (Blk.other HR.out (.slice (some ⟨gg, 0, none⟩) 4 cc) (g' := w.heap.size) (j := 0) (by omega)) (.bool true) (g' := w.heap.size) (j := 3) (by omega)) (.cells #[.int .i64 9, .int .i64 xa, .int .i64 xb, .int .i64 xn] 25))
    have hOv := (own_more (own_set (own_set HO.out (.slice (some ⟨gg, 0, none⟩) 4 cc) (g := w.heap.size) (j := 0) hnG) (.bool true) (g := w.heap.size) (j := 3) hnG) (.cells #[.int .i64 9, .int .i64 xa, .int .i64 xb, .int .i64 xn] 25))
    have hBv := (below_more (below_set (below_set HW.out (g := w.heap.size) (j := 0) (by omega) (.slice (some ⟨gg, 0, none⟩) 4 cc)) (g := w.heap.size) (j := 3) (by omega) (.bool true)) (.cells #[.int .i64 9, .int .i64 xa, .int .i64 xb, .int .i64 xn] 25))
    obtain ⟨v, hv⟩ : ∃ v, (((w1.setCell ⟨w.heap.size, 0, none⟩ (.slice (some ⟨gg, 0, none⟩) 4 cc)).setCell ⟨w.heap.size, 3, none⟩ (.bool true)).alloc (.cells #[.int .i64 9, .int .i64 xa, .int .i64 xb, .int .i64 xn] 25)) = v := ⟨_, rfl⟩
    rw [hv] at hGv hRv hOv hBv ⊢
    clear hv k0 k1 k2 k3 r0 r1 r2 r3 fk0 fk1 fk2 fk3 fr0 fr1 fr2 fr3 HG HR HO HW
    have HG := Lib.hid hGv
    have HR := Lib.hid hRv
    have HO := Lib.hid hOv
    have HW := Lib.hid hBv
    clear hGv hRv hOv hBv
    have k0 : v.cell? ⟨w.heap.size, 0, none⟩ = some (.slice (some ⟨gg, 0, none⟩) 4 cc) := HG.out.cell 0 _ rfl
    have fk0 := HG.out.free 0
    have r0 := HR.out.cell 0 _ rfl
    have fr0 := HR.out.free 0
    have k1 : v.cell? ⟨w.heap.size, 1, none⟩ = some (.int .i64 k) := HG.out.cell 1 _ rfl
    have fk1 := HG.out.free 1
    have r1 := HR.out.cell 1 _ rfl
    have fr1 := HR.out.free 1
    have k2 : v.cell? ⟨w.heap.size, 2, none⟩ = some (.bool zero) := HG.out.cell 2 _ rfl
    have fk2 := HG.out.free 2
    have r2 := HR.out.cell 2 _ rfl
    have fr2 := HR.out.free 2
    have k3 : v.cell? ⟨w.heap.size, 3, none⟩ = some (.bool true) := HG.out.cell 3 _ rfl
    have fk3 := HG.out.free 3
    have r3 := HR.out.cell 3 _ rfl
    have fr3 := HR.out.free 3
    refine (isBelow_no ((k : Int) + 1) n (by omega) _).mono ?_
    rintro e w2 ⟨rfl, hw⟩
    subst hw
    go_wp2_with fail
    have hZ := (Blk.set (Blk.set (Blk.set (Blk.set (Blk.other HR.out (.bool true) (g' := w.heap.size) (j := 3) (by omega)) 0 (.slice (some ⟨gg, 0, none⟩) 4 cc)) 1 (.int .i64 k)) 2 (.bool zero)) 3 (.bool true))
    have hY := (own_set (own_set (own_set (own_set (own_set HO.out (.bool true) (g := w.heap.size) (j := 3) hnG) (.slice (some ⟨gg, 0, none⟩) 4 cc) (g := w.heap.size + 1) (j := 0) hnR) (.int .i64 k) (g := w.heap.size + 1) (j := 1) hnR) (.bool zero) (g := w.heap.size + 1) (j := 2) hnR) (.bool true) (g := w.heap.size + 1) (j := 3) hnR)
    have hX := (below_set (below_set (below_set (below_set (below_set HW.out (g := w.heap.size) (j := 3) (by omega) (.bool true)) (g := w.heap.size + 1) (j := 0) (by omega) (.slice (some ⟨gg, 0, none⟩) 4 cc)) (g := w.heap.size + 1) (j := 1) (by omega) (.int .i64 k)) (g := w.heap.size + 1) (j := 2) (by omega) (.bool zero)) (g := w.heap.size + 1) (j := 3) (by omega) (.bool true))
    have HZ := Lib.hid hZ
    have HY := Lib.hid hY
    have HXX := Lib.hid hX
    clear hZ hY hX k0 k1 k2 k3 r0 r1 r2 r3 fk0 fk1 fk2 fk3 fr0 fr1 fr2 fr3
    revert HZ HY HXX
    generalize (((((v.setCell _ _).setCell _ _).setCell _ _).setCell _ _).setCell _ _) = wz
    intro HZ HY HXX
    have z0 : wz.cell? ⟨w.heap.size + 1, 0, none⟩ = some (.slice (some ⟨gg, 0, none⟩) 4 cc) := HZ.out.cell 0 _ rfl
    have z1 : wz.cell? ⟨w.heap.size + 1, 1, none⟩ = some (.int .i64 k) := HZ.out.cell 1 _ rfl
    have z2 : wz.cell? ⟨w.heap.size + 1, 2, none⟩ = some (.bool zero) := HZ.out.cell 2 _ rfl
    have z3 : wz.cell? ⟨w.heap.size + 1, 3, none⟩ = some (.bool true) := HZ.out.cell 3 _ rfl
    refine afterStep_ret rfl rfl z0 z1 z2 z3 ⟨gg, cc, ?_, ?_, HXX.out⟩
    · rw [HST.out]
    · rw [HST.out]; exact HY.out
set_option maxRecDepth 100000 in
set_option maxHeartbeats 8000000 in
theorem afterStep_jump (A A' : Option Addr) (n c c' : Nat) (xs : List Ins) (rs : List Int) (k : Nat) (zero : Bool) (xa xb xn : Int) (w : World) (hr : Reads w w.heap.size 4 A n (FL xs)) (hn : n ≤ 1048576) (hr' : Reads w w.heap.size 1 A' 4 (I rs))
    (hk : k < n) (hx : xs[k]? = some ⟨7, xa, xb, xn⟩) (hok : Ok ⟨7, xa, xb, xn⟩) (hrs : ∀ z ∈ rs, 0 ≤ z ∧ z ≤ 65535)  :
    Calls Tryd.prog 55 #[.slice A n c, .agg #[.slice A' 4 c', .int .i64 k, .bool zero, .bool false]] w fun e w' => ∃ gg cc, e = .returned (.agg #[.slice (some ⟨gg, 0, none⟩) 4 cc, .int .i64 (stepOf xs ⟨rs, k, zero, false⟩).place, .bool (stepOf xs ⟨rs, k, zero, false⟩).zero, .bool (stepOf xs ⟨rs, k, zero, false⟩).stopped]) ∧
      w'.ownsRow w.heap.size 3 1 (.slice (some ⟨gg, 0, none⟩) 4 cc) 4 (I (stepOf xs ⟨rs, k, zero, false⟩).r) ∧ Below w.heap.size w w' := by
  obtain ⟨b2, o2, rfl, hb2, _⟩ := hr'.2 (by omega)
  have hL : xs.length = n := reads_len hr
  have hget : xs.getD ((k : Int).toNat) default = ⟨7, xa, xb, xn⟩ := by rw [Int.toNat_natCast, List.getD, hx]; rfl
  have HGET := Lib.hid hget
  have HL := Lib.hid hL
  have hxn := hok.2.2.2.1
  simp only at hxn
  have hb0 := below_more (below_more (Below.refl w.heap.size w) (.cells #[.slice (some ⟨b2, o2, none⟩) 4 c', .int .i64 k, .bool zero, .bool false] 40)) (.cells #[.slice none 0 0, .int .i64 0, .bool false, .bool false] 40)
  have HR1 := Lib.hid ((hr'.below hb0).more hb0.size)
  have HP1 := Lib.hid (hr.below hb0)
  have HX := Lib.hid hx
  have HRS := Lib.hid hrs
  have hlen := hr'.len
  rw [I_len] at hlen
  have HLEN := Lib.hid hlen
  clear hr hr' hb0 hx hrs hget hlen
  have _ := hok
  go_enter Tryd.func55, Tryd.ntmps55
  go_wp2_with fail
  refine (clone_some b2 o2 4 c' _ rs _ HR1.out (by omega) (by omega)).mono ?_
  rintro e w1 ⟨gg, cc, rfl, hown, hb⟩
  have hG := Blk.kept hb (Blk.alloc (Blk.new _ _ _) _)
  have hR := Blk.kept hb (Blk.new _ _ _)
  rw [size1] at hR
  have hgg := (hown.lt gg rfl).1
  have hgl := (hown.lt gg rfl).2
  rw [size1, size1] at hgg
  have HO := Lib.hid (own_mono hown (b' := w.heap.size) (by rw [size1, size1]; omega))
  have hs : w.heap.size + 2 ≤ w1.heap.size := by have := hb.size; rw [size1, size1] at this; omega
  have hs1 : w.heap.size < w1.heap.size := by omega
  have hs2 : w.heap.size + 1 < w1.heap.size := by omega
  have HW := Lib.hid (below_then (below_more (below_more (Below.refl w.heap.size w) _) _) hb)
  have hP := HP1.out.keep (w' := w1) (fun p hp => hb.cell (by rw [size1, size1]; omega))
  have HR := Lib.hid hR
  have HG := Lib.hid hG
  obtain ⟨b1, o1, y, rfl, hb1, hy, c0, c1, c2, c3⟩ := ins_at hP hk
  have hb3 : b1 < w1.heap.size := by omega
  obtain rfl : y = ⟨7, xa, xb, xn⟩ := by rw [HX.out] at hy; exact (Option.some.inj hy).symm
  clear hb hown hG hR hP hy HR1 HP1
  have k0 := HG.out.cell 0 _ rfl
  have k1 := HG.out.cell 1 _ rfl
  have k2 := HG.out.cell 2 _ rfl
  have k3 := HG.out.cell 3 _ rfl
  have r0 := HR.out.cell 0 _ rfl
  have r1 := HR.out.cell 1 _ rfl
  have r2 := HR.out.cell 2 _ rfl
  have r3 := HR.out.cell 3 _ rfl
  have fk0 := HG.out.free 0
  have fk1 := HG.out.free 1
  have fk2 := HG.out.free 2
  have fk3 := HG.out.free 3
  have fr0 := HR.out.free 0
  have fr1 := HR.out.free 1
  have fr2 := HR.out.free 2
  have fr3 := HR.out.free 3
  have hnG : (Value.slice (some ⟨gg, 0, none⟩) 4 cc).ownBlock ≠ some w.heap.size := by
    intro e
    injection e with e
    simp only at e
    omega
  have hnR : (Value.slice (some ⟨gg, 0, none⟩) 4 cc).ownBlock ≠ some (w.heap.size + 1) := by
    intro e
    injection e with e
    simp only at e
    omega
  by_cases hnx : xn < (n : Int)
  ·
    have hst : stepOf xs ⟨rs, k, zero, false⟩ = ⟨rs, xn, zero, false⟩ := by
      have hnx2 : ¬ ((n : Int) ≤ xn) := by omega
      unfold stepOf nextOf
      simp only [HGET.out, HL.out]
      simp [hnx, hnx2]
    have HST := Lib.hid hst
    clear hst
    go_wp2_with fail
    refine (isBelow_yes (xn) n (by omega) hnx _).mono ?_
    rintro e w2 ⟨rfl, hw⟩
    subst hw
    go_wp2_with fail
    have hZ := (Blk.alloc (Blk.set (Blk.set (Blk.set (Blk.set (Blk.other (Blk.other HR.out (.slice (some ⟨gg, 0, none⟩) 4 cc) (g' := w.heap.size) (j := 0) (by omega)) (.int .i64 xn) (g' := w.heap.size) (j := 1) (by omega)) 0 (.slice (some ⟨gg, 0, none⟩) 4 cc)) 1 (.int .i64 xn)) 2 (.bool zero)) 3 (.bool false)) (.cells #[.int .i64 7, .int .i64 xa, .int .i64 xb, .int .i64 xn] 25))
    have hY := (own_more (own_set (own_set (own_set (own_set (own_set (own_set HO.out (.slice (some ⟨gg, 0, none⟩) 4 cc) (g := w.heap.size) (j := 0) hnG) (.int .i64 xn) (g := w.heap.size) (j := 1) hnG) (.slice (some ⟨gg, 0, none⟩) 4 cc) (g := w.heap.size + 1) (j := 0) hnR) (.int .i64 xn) (g := w.heap.size + 1) (j := 1) hnR) (.bool zero) (g := w.heap.size + 1) (j := 2) hnR) (.bool false) (g := w.heap.size + 1) (j := 3) hnR) (.cells #[.int .i64 7, .int .i64 xa, .int .i64 xb, .int .i64 xn] 25))
    have hX := (below_more (below_set (below_set (below_set (below_set (below_set (below_set HW.out (g := w.heap.size) (j := 0) (by omega) (.slice (some ⟨gg, 0, none⟩) 4 cc)) (g := w.heap.size) (j := 1) (by omega) (.int .i64 xn)) (g := w.heap.size + 1) (j := 0) (by omega) (.slice (some ⟨gg, 0, none⟩) 4 cc)) (g := w.heap.size + 1) (j := 1) (by omega) (.int .i64 xn)) (g := w.heap.size + 1) (j := 2) (by omega) (.bool zero)) (g := w.heap.size + 1) (j := 3) (by omega) (.bool false)) (.cells #[.int .i64 7, .int .i64 xa, .int .i64 xb, .int .i64 xn] 25))
    have HZ := Lib.hid hZ
    have HY := Lib.hid hY
    have HXX := Lib.hid hX
    clear hZ hY hX k0 k1 k2 k3 r0 r1 r2 r3 fk0 fk1 fk2 fk3 fr0 fr1 fr2 fr3
    revert HZ HY HXX
    generalize (((((((w1.setCell _ _).setCell _ _).setCell _ _).setCell _ _).setCell _ _).setCell _ _).alloc _) = wz
    intro HZ HY HXX
    have z0 : wz.cell? ⟨w.heap.size + 1, 0, none⟩ = some (.slice (some ⟨gg, 0, none⟩) 4 cc) := HZ.out.cell 0 _ rfl
    have z1 : wz.cell? ⟨w.heap.size + 1, 1, none⟩ = some (.int .i64 xn) := HZ.out.cell 1 _ rfl
    have z2 : wz.cell? ⟨w.heap.size + 1, 2, none⟩ = some (.bool zero) := HZ.out.cell 2 _ rfl
    have z3 : wz.cell? ⟨w.heap.size + 1, 3, none⟩ = some (.bool false) := HZ.out.cell 3 _ rfl
    refine afterStep_ret rfl rfl z0 z1 z2 z3 ⟨gg, cc, ?_, ?_, HXX.out⟩
    · rw [HST.out]
    · rw [HST.out]; exact HY.out
  ·
    have hst : stepOf xs ⟨rs, k, zero, false⟩ = ⟨rs, k, zero, true⟩ := by
      have hnx2 : (n : Int) ≤ xn := by omega
      unfold stepOf nextOf
      simp only [HGET.out, HL.out]
      simp [hnx, hnx2]
    have HST := Lib.hid hst
    clear hst
    go_wp2_with fail
    refine (isBelow_no (xn) n (by omega) _).mono ?_
    rintro e w2 ⟨rfl, hw⟩
    subst hw
    go_wp2_with fail
    have hZ := (Blk.alloc (Blk.set (Blk.set (Blk.set (Blk.set (Blk.other (Blk.other HR.out (.slice (some ⟨gg, 0, none⟩) 4 cc) (g' := w.heap.size) (j := 0) (by omega)) (.bool true) (g' := w.heap.size) (j := 3) (by omega)) 0 (.slice (some ⟨gg, 0, none⟩) 4 cc)) 1 (.int .i64 k)) 2 (.bool zero)) 3 (.bool true)) (.cells #[.int .i64 7, .int .i64 xa, .int .i64 xb, .int .i64 xn] 25))
    have hY := (own_more (own_set (own_set (own_set (own_set (own_set (own_set HO.out (.slice (some ⟨gg, 0, none⟩) 4 cc) (g := w.heap.size) (j := 0) hnG) (.bool true) (g := w.heap.size) (j := 3) hnG) (.slice (some ⟨gg, 0, none⟩) 4 cc) (g := w.heap.size + 1) (j := 0) hnR) (.int .i64 k) (g := w.heap.size + 1) (j := 1) hnR) (.bool zero) (g := w.heap.size + 1) (j := 2) hnR) (.bool true) (g := w.heap.size + 1) (j := 3) hnR) (.cells #[.int .i64 7, .int .i64 xa, .int .i64 xb, .int .i64 xn] 25))
    have hX := (below_more (below_set (below_set (below_set (below_set (below_set (below_set HW.out (g := w.heap.size) (j := 0) (by omega) (.slice (some ⟨gg, 0, none⟩) 4 cc)) (g := w.heap.size) (j := 3) (by omega) (.bool true)) (g := w.heap.size + 1) (j := 0) (by omega) (.slice (some ⟨gg, 0, none⟩) 4 cc)) (g := w.heap.size + 1) (j := 1) (by omega) (.int .i64 k)) (g := w.heap.size + 1) (j := 2) (by omega) (.bool zero)) (g := w.heap.size + 1) (j := 3) (by omega) (.bool true)) (.cells #[.int .i64 7, .int .i64 xa, .int .i64 xb, .int .i64 xn] 25))
    have HZ := Lib.hid hZ
    have HY := Lib.hid hY
    have HXX := Lib.hid hX
    clear hZ hY hX k0 k1 k2 k3 r0 r1 r2 r3 fk0 fk1 fk2 fk3 fr0 fr1 fr2 fr3
    revert HZ HY HXX
    generalize (((((((w1.setCell _ _).setCell _ _).setCell _ _).setCell _ _).setCell _ _).setCell _ _).alloc _) = wz
    intro HZ HY HXX
    have z0 : wz.cell? ⟨w.heap.size + 1, 0, none⟩ = some (.slice (some ⟨gg, 0, none⟩) 4 cc) := HZ.out.cell 0 _ rfl
    have z1 : wz.cell? ⟨w.heap.size + 1, 1, none⟩ = some (.int .i64 k) := HZ.out.cell 1 _ rfl
    have z2 : wz.cell? ⟨w.heap.size + 1, 2, none⟩ = some (.bool zero) := HZ.out.cell 2 _ rfl
    have z3 : wz.cell? ⟨w.heap.size + 1, 3, none⟩ = some (.bool true) := HZ.out.cell 3 _ rfl
    refine afterStep_ret rfl rfl z0 z1 z2 z3 ⟨gg, cc, ?_, ?_, HXX.out⟩
    · rw [HST.out]
    · rw [HST.out]; exact HY.out
set_option maxRecDepth 100000 in
set_option maxHeartbeats 8000000 in
theorem afterStep_jz (A A' : Option Addr) (n c c' : Nat) (xs : List Ins) (rs : List Int) (k : Nat) (zero : Bool) (xa xb xn : Int) (w : World) (hr : Reads w w.heap.size 4 A n (FL xs)) (hn : n ≤ 1048576) (hr' : Reads w w.heap.size 1 A' 4 (I rs))
    (hk : k < n) (hx : xs[k]? = some ⟨8, xa, xb, xn⟩) (hok : Ok ⟨8, xa, xb, xn⟩) (hrs : ∀ z ∈ rs, 0 ≤ z ∧ z ≤ 65535)  :
    Calls Tryd.prog 55 #[.slice A n c, .agg #[.slice A' 4 c', .int .i64 k, .bool zero, .bool false]] w fun e w' => ∃ gg cc, e = .returned (.agg #[.slice (some ⟨gg, 0, none⟩) 4 cc, .int .i64 (stepOf xs ⟨rs, k, zero, false⟩).place, .bool (stepOf xs ⟨rs, k, zero, false⟩).zero, .bool (stepOf xs ⟨rs, k, zero, false⟩).stopped]) ∧
      w'.ownsRow w.heap.size 3 1 (.slice (some ⟨gg, 0, none⟩) 4 cc) 4 (I (stepOf xs ⟨rs, k, zero, false⟩).r) ∧ Below w.heap.size w w' := by
  obtain ⟨b2, o2, rfl, hb2, _⟩ := hr'.2 (by omega)
  have hL : xs.length = n := reads_len hr
  have hget : xs.getD ((k : Int).toNat) default = ⟨8, xa, xb, xn⟩ := by rw [Int.toNat_natCast, List.getD, hx]; rfl
  have HGET := Lib.hid hget
  have HL := Lib.hid hL
  have hxn := hok.2.2.2.1
  simp only at hxn
  have hb0 := below_more (below_more (Below.refl w.heap.size w) (.cells #[.slice (some ⟨b2, o2, none⟩) 4 c', .int .i64 k, .bool zero, .bool false] 40)) (.cells #[.slice none 0 0, .int .i64 0, .bool false, .bool false] 40)
  have HR1 := Lib.hid ((hr'.below hb0).more hb0.size)
  have HP1 := Lib.hid (hr.below hb0)
  have HX := Lib.hid hx
  have HRS := Lib.hid hrs
  have hlen := hr'.len
  rw [I_len] at hlen
  have HLEN := Lib.hid hlen
  clear hr hr' hb0 hx hrs hget hlen
  have _ := hok
  go_enter Tryd.func55, Tryd.ntmps55
  go_wp2_with fail
  refine (clone_some b2 o2 4 c' _ rs _ HR1.out (by omega) (by omega)).mono ?_
  rintro e w1 ⟨gg, cc, rfl, hown, hb⟩
  have hG := Blk.kept hb (Blk.alloc (Blk.new _ _ _) _)
  have hR := Blk.kept hb (Blk.new _ _ _)
  rw [size1] at hR
  have hgg := (hown.lt gg rfl).1
  have hgl := (hown.lt gg rfl).2
  rw [size1, size1] at hgg
  have HO := Lib.hid (own_mono hown (b' := w.heap.size) (by rw [size1, size1]; omega))
  have hs : w.heap.size + 2 ≤ w1.heap.size := by have := hb.size; rw [size1, size1] at this; omega
  have hs1 : w.heap.size < w1.heap.size := by omega
  have hs2 : w.heap.size + 1 < w1.heap.size := by omega
  have HW := Lib.hid (below_then (below_more (below_more (Below.refl w.heap.size w) _) _) hb)
  have hP := HP1.out.keep (w' := w1) (fun p hp => hb.cell (by rw [size1, size1]; omega))
  have HR := Lib.hid hR
  have HG := Lib.hid hG
  obtain ⟨b1, o1, y, rfl, hb1, hy, c0, c1, c2, c3⟩ := ins_at hP hk
  have hb3 : b1 < w1.heap.size := by omega
  obtain rfl : y = ⟨8, xa, xb, xn⟩ := by rw [HX.out] at hy; exact (Option.some.inj hy).symm
  clear hb hown hG hR hP hy HR1 HP1
  have k0 := HG.out.cell 0 _ rfl
  have k1 := HG.out.cell 1 _ rfl
  have k2 := HG.out.cell 2 _ rfl
  have k3 := HG.out.cell 3 _ rfl
  have r0 := HR.out.cell 0 _ rfl
  have r1 := HR.out.cell 1 _ rfl
  have r2 := HR.out.cell 2 _ rfl
  have r3 := HR.out.cell 3 _ rfl
  have fk0 := HG.out.free 0
  have fk1 := HG.out.free 1
  have fk2 := HG.out.free 2
  have fk3 := HG.out.free 3
  have fr0 := HR.out.free 0
  have fr1 := HR.out.free 1
  have fr2 := HR.out.free 2
  have fr3 := HR.out.free 3
  have hnG : (Value.slice (some ⟨gg, 0, none⟩) 4 cc).ownBlock ≠ some w.heap.size := by
    intro e
    injection e with e
    simp only at e
    omega
  have hnR : (Value.slice (some ⟨gg, 0, none⟩) 4 cc).ownBlock ≠ some (w.heap.size + 1) := by
    intro e
    injection e with e
    simp only at e
    omega
  cases zero
  ·
    by_cases hnx : (k : Int) + 1 < (n : Int)
    ·
      have hst : stepOf xs ⟨rs, k, false, false⟩ = ⟨rs, (k : Int) + 1, false, false⟩ := by
        have hnx2 : ¬ ((n : Int) ≤ (k : Int) + 1) := by omega
        unfold stepOf nextOf
        simp only [HGET.out, HL.out]
        simp [hnx, hnx2]
      have HST := Lib.hid hst
      clear hst
      go_wp2_with fail
      refine (isBelow_yes ((k : Int) + 1) n (by omega) hnx _).mono ?_
      rintro e w2 ⟨rfl, hw⟩
      subst hw
      go_wp2_with fail
      have hZ := (Blk.alloc (Blk.set (Blk.set (Blk.set (Blk.set (Blk.other (Blk.other HR.out (.slice (some ⟨gg, 0, none⟩) 4 cc) (g' := w.heap.size) (j := 0) (by omega)) (.int .i64 ((k : Int) + 1)) (g' := w.heap.size) (j := 1) (by omega)) 0 (.slice (some ⟨gg, 0, none⟩) 4 cc)) 1 (.int .i64 ((k : Int) + 1))) 2 (.bool false)) 3 (.bool false)) (.cells #[.int .i64 8, .int .i64 xa, .int .i64 xb, .int .i64 xn] 25))
      have hY := (own_more (own_set (own_set (own_set (own_set (own_set (own_set HO.out (.slice (some ⟨gg, 0, none⟩) 4 cc) (g := w.heap.size) (j := 0) hnG) (.int .i64 ((k : Int) + 1)) (g := w.heap.size) (j := 1) hnG) (.slice (some ⟨gg, 0, none⟩) 4 cc) (g := w.heap.size + 1) (j := 0) hnR) (.int .i64 ((k : Int) + 1)) (g := w.heap.size + 1) (j := 1) hnR) (.bool false) (g := w.heap.size + 1) (j := 2) hnR) (.bool false) (g := w.heap.size + 1) (j := 3) hnR) (.cells #[.int .i64 8, .int .i64 xa, .int .i64 xb, .int .i64 xn] 25))
      have hX := (below_more (below_set (below_set (below_set (below_set (below_set (below_set HW.out (g := w.heap.size) (j := 0) (by omega) (.slice (some ⟨gg, 0, none⟩) 4 cc)) (g := w.heap.size) (j := 1) (by omega) (.int .i64 ((k : Int) + 1))) (g := w.heap.size + 1) (j := 0) (by omega) (.slice (some ⟨gg, 0, none⟩) 4 cc)) (g := w.heap.size + 1) (j := 1) (by omega) (.int .i64 ((k : Int) + 1))) (g := w.heap.size + 1) (j := 2) (by omega) (.bool false)) (g := w.heap.size + 1) (j := 3) (by omega) (.bool false)) (.cells #[.int .i64 8, .int .i64 xa, .int .i64 xb, .int .i64 xn] 25))
      have HZ := Lib.hid hZ
      have HY := Lib.hid hY
      have HXX := Lib.hid hX
      clear hZ hY hX k0 k1 k2 k3 r0 r1 r2 r3 fk0 fk1 fk2 fk3 fr0 fr1 fr2 fr3
      revert HZ HY HXX
      generalize (((((((w1.setCell _ _).setCell _ _).setCell _ _).setCell _ _).setCell _ _).setCell _ _).alloc _) = wz
      intro HZ HY HXX
      have z0 : wz.cell? ⟨w.heap.size + 1, 0, none⟩ = some (.slice (some ⟨gg, 0, none⟩) 4 cc) := HZ.out.cell 0 _ rfl
      have z1 : wz.cell? ⟨w.heap.size + 1, 1, none⟩ = some (.int .i64 ((k : Int) + 1)) := HZ.out.cell 1 _ rfl
      have z2 : wz.cell? ⟨w.heap.size + 1, 2, none⟩ = some (.bool false) := HZ.out.cell 2 _ rfl
      have z3 : wz.cell? ⟨w.heap.size + 1, 3, none⟩ = some (.bool false) := HZ.out.cell 3 _ rfl
      refine afterStep_ret rfl rfl z0 z1 z2 z3 ⟨gg, cc, ?_, ?_, HXX.out⟩
      · rw [HST.out]
      · rw [HST.out]; exact HY.out
    ·
      have hst : stepOf xs ⟨rs, k, false, false⟩ = ⟨rs, k, false, true⟩ := by
        have hnx2 : (n : Int) ≤ (k : Int) + 1 := by omega
        unfold stepOf nextOf
        simp only [HGET.out, HL.out]
        simp [hnx, hnx2]
      have HST := Lib.hid hst
      clear hst
      go_wp2_with fail
      refine (isBelow_no ((k : Int) + 1) n (by omega) _).mono ?_
      rintro e w2 ⟨rfl, hw⟩
      subst hw
      go_wp2_with fail
      have hZ := (Blk.alloc (Blk.set (Blk.set (Blk.set (Blk.set (Blk.other (Blk.other HR.out (.slice (some ⟨gg, 0, none⟩) 4 cc) (g' := w.heap.size) (j := 0) (by omega)) (.bool true) (g' := w.heap.size) (j := 3) (by omega)) 0 (.slice (some ⟨gg, 0, none⟩) 4 cc)) 1 (.int .i64 k)) 2 (.bool false)) 3 (.bool true)) (.cells #[.int .i64 8, .int .i64 xa, .int .i64 xb, .int .i64 xn] 25))
      have hY := (own_more (own_set (own_set (own_set (own_set (own_set (own_set HO.out (.slice (some ⟨gg, 0, none⟩) 4 cc) (g := w.heap.size) (j := 0) hnG) (.bool true) (g := w.heap.size) (j := 3) hnG) (.slice (some ⟨gg, 0, none⟩) 4 cc) (g := w.heap.size + 1) (j := 0) hnR) (.int .i64 k) (g := w.heap.size + 1) (j := 1) hnR) (.bool false) (g := w.heap.size + 1) (j := 2) hnR) (.bool true) (g := w.heap.size + 1) (j := 3) hnR) (.cells #[.int .i64 8, .int .i64 xa, .int .i64 xb, .int .i64 xn] 25))
      have hX := (below_more (below_set (below_set (below_set (below_set (below_set (below_set HW.out (g := w.heap.size) (j := 0) (by omega) (.slice (some ⟨gg, 0, none⟩) 4 cc)) (g := w.heap.size) (j := 3) (by omega) (.bool true)) (g := w.heap.size + 1) (j := 0) (by omega) (.slice (some ⟨gg, 0, none⟩) 4 cc)) (g := w.heap.size + 1) (j := 1) (by omega) (.int .i64 k)) (g := w.heap.size + 1) (j := 2) (by omega) (.bool false)) (g := w.heap.size + 1) (j := 3) (by omega) (.bool true)) (.cells #[.int .i64 8, .int .i64 xa, .int .i64 xb, .int .i64 xn] 25))
      have HZ := Lib.hid hZ
      have HY := Lib.hid hY
      have HXX := Lib.hid hX
      clear hZ hY hX k0 k1 k2 k3 r0 r1 r2 r3 fk0 fk1 fk2 fk3 fr0 fr1 fr2 fr3
      revert HZ HY HXX
      generalize (((((((w1.setCell _ _).setCell _ _).setCell _ _).setCell _ _).setCell _ _).setCell _ _).alloc _) = wz
      intro HZ HY HXX
      have z0 : wz.cell? ⟨w.heap.size + 1, 0, none⟩ = some (.slice (some ⟨gg, 0, none⟩) 4 cc) := HZ.out.cell 0 _ rfl
      have z1 : wz.cell? ⟨w.heap.size + 1, 1, none⟩ = some (.int .i64 k) := HZ.out.cell 1 _ rfl
      have z2 : wz.cell? ⟨w.heap.size + 1, 2, none⟩ = some (.bool false) := HZ.out.cell 2 _ rfl
      have z3 : wz.cell? ⟨w.heap.size + 1, 3, none⟩ = some (.bool true) := HZ.out.cell 3 _ rfl
      refine afterStep_ret rfl rfl z0 z1 z2 z3 ⟨gg, cc, ?_, ?_, HXX.out⟩
      · rw [HST.out]
      · rw [HST.out]; exact HY.out
  ·
    by_cases hnx : xn < (n : Int)
    ·
      have hst : stepOf xs ⟨rs, k, true, false⟩ = ⟨rs, xn, true, false⟩ := by
        have hnx2 : ¬ ((n : Int) ≤ xn) := by omega
        unfold stepOf nextOf
        simp only [HGET.out, HL.out]
        simp [hnx, hnx2]
      have HST := Lib.hid hst
      clear hst
      go_wp2_with fail
      refine (isBelow_yes (xn) n (by omega) hnx _).mono ?_
      rintro e w2 ⟨rfl, hw⟩
      subst hw
      go_wp2_with fail
      have hZ := (Blk.alloc (Blk.set (Blk.set (Blk.set (Blk.set (Blk.other (Blk.other HR.out (.slice (some ⟨gg, 0, none⟩) 4 cc) (g' := w.heap.size) (j := 0) (by omega)) (.int .i64 xn) (g' := w.heap.size) (j := 1) (by omega)) 0 (.slice (some ⟨gg, 0, none⟩) 4 cc)) 1 (.int .i64 xn)) 2 (.bool true)) 3 (.bool false)) (.cells #[.int .i64 8, .int .i64 xa, .int .i64 xb, .int .i64 xn] 25))
      have hY := (own_more (own_set (own_set (own_set (own_set (own_set (own_set HO.out (.slice (some ⟨gg, 0, none⟩) 4 cc) (g := w.heap.size) (j := 0) hnG) (.int .i64 xn) (g := w.heap.size) (j := 1) hnG) (.slice (some ⟨gg, 0, none⟩) 4 cc) (g := w.heap.size + 1) (j := 0) hnR) (.int .i64 xn) (g := w.heap.size + 1) (j := 1) hnR) (.bool true) (g := w.heap.size + 1) (j := 2) hnR) (.bool false) (g := w.heap.size + 1) (j := 3) hnR) (.cells #[.int .i64 8, .int .i64 xa, .int .i64 xb, .int .i64 xn] 25))
      have hX := (below_more (below_set (below_set (below_set (below_set (below_set (below_set HW.out (g := w.heap.size) (j := 0) (by omega) (.slice (some ⟨gg, 0, none⟩) 4 cc)) (g := w.heap.size) (j := 1) (by omega) (.int .i64 xn)) (g := w.heap.size + 1) (j := 0) (by omega) (.slice (some ⟨gg, 0, none⟩) 4 cc)) (g := w.heap.size + 1) (j := 1) (by omega) (.int .i64 xn)) (g := w.heap.size + 1) (j := 2) (by omega) (.bool true)) (g := w.heap.size + 1) (j := 3) (by omega) (.bool false)) (.cells #[.int .i64 8, .int .i64 xa, .int .i64 xb, .int .i64 xn] 25))
      have HZ := Lib.hid hZ
      have HY := Lib.hid hY
      have HXX := Lib.hid hX
      clear hZ hY hX k0 k1 k2 k3 r0 r1 r2 r3 fk0 fk1 fk2 fk3 fr0 fr1 fr2 fr3
      revert HZ HY HXX
      generalize (((((((w1.setCell _ _).setCell _ _).setCell _ _).setCell _ _).setCell _ _).setCell _ _).alloc _) = wz
      intro HZ HY HXX
      have z0 : wz.cell? ⟨w.heap.size + 1, 0, none⟩ = some (.slice (some ⟨gg, 0, none⟩) 4 cc) := HZ.out.cell 0 _ rfl
      have z1 : wz.cell? ⟨w.heap.size + 1, 1, none⟩ = some (.int .i64 xn) := HZ.out.cell 1 _ rfl
      have z2 : wz.cell? ⟨w.heap.size + 1, 2, none⟩ = some (.bool true) := HZ.out.cell 2 _ rfl
      have z3 : wz.cell? ⟨w.heap.size + 1, 3, none⟩ = some (.bool false) := HZ.out.cell 3 _ rfl
      refine afterStep_ret rfl rfl z0 z1 z2 z3 ⟨gg, cc, ?_, ?_, HXX.out⟩
      · rw [HST.out]
      · rw [HST.out]; exact HY.out
    ·
      have hst : stepOf xs ⟨rs, k, true, false⟩ = ⟨rs, k, true, true⟩ := by
        have hnx2 : (n : Int) ≤ xn := by omega
        unfold stepOf nextOf
        simp only [HGET.out, HL.out]
        simp [hnx, hnx2]
      have HST := Lib.hid hst
      clear hst
      go_wp2_with fail
      refine (isBelow_no (xn) n (by omega) _).mono ?_
      rintro e w2 ⟨rfl, hw⟩
      subst hw
      go_wp2_with fail
      have hZ := (Blk.alloc (Blk.set (Blk.set (Blk.set (Blk.set (Blk.other (Blk.other HR.out (.slice (some ⟨gg, 0, none⟩) 4 cc) (g' := w.heap.size) (j := 0) (by omega)) (.bool true) (g' := w.heap.size) (j := 3) (by omega)) 0 (.slice (some ⟨gg, 0, none⟩) 4 cc)) 1 (.int .i64 k)) 2 (.bool true)) 3 (.bool true)) (.cells #[.int .i64 8, .int .i64 xa, .int .i64 xb, .int .i64 xn] 25))
      have hY := (own_more (own_set (own_set (own_set (own_set (own_set (own_set HO.out (.slice (some ⟨gg, 0, none⟩) 4 cc) (g := w.heap.size) (j := 0) hnG) (.bool true) (g := w.heap.size) (j := 3) hnG) (.slice (some ⟨gg, 0, none⟩) 4 cc) (g := w.heap.size + 1) (j := 0) hnR) (.int .i64 k) (g := w.heap.size + 1) (j := 1) hnR) (.bool true) (g := w.heap.size + 1) (j := 2) hnR) (.bool true) (g := w.heap.size + 1) (j := 3) hnR) (.cells #[.int .i64 8, .int .i64 xa, .int .i64 xb, .int .i64 xn] 25))
      have hX := (below_more (below_set (below_set (below_set (below_set (below_set (below_set HW.out (g := w.heap.size) (j := 0) (by omega) (.slice (some ⟨gg, 0, none⟩) 4 cc)) (g := w.heap.size) (j := 3) (by omega) (.bool true)) (g := w.heap.size + 1) (j := 0) (by omega) (.slice (some ⟨gg, 0, none⟩) 4 cc)) (g := w.heap.size + 1) (j := 1) (by omega) (.int .i64 k)) (g := w.heap.size + 1) (j := 2) (by omega) (.bool true)) (g := w.heap.size + 1) (j := 3) (by omega) (.bool true)) (.cells #[.int .i64 8, .int .i64 xa, .int .i64 xb, .int .i64 xn] 25))
      have HZ := Lib.hid hZ
      have HY := Lib.hid hY
      have HXX := Lib.hid hX
      clear hZ hY hX k0 k1 k2 k3 r0 r1 r2 r3 fk0 fk1 fk2 fk3 fr0 fr1 fr2 fr3
      revert HZ HY HXX
      generalize (((((((w1.setCell _ _).setCell _ _).setCell _ _).setCell _ _).setCell _ _).setCell _ _).alloc _) = wz
      intro HZ HY HXX
      have z0 : wz.cell? ⟨w.heap.size + 1, 0, none⟩ = some (.slice (some ⟨gg, 0, none⟩) 4 cc) := HZ.out.cell 0 _ rfl
      have z1 : wz.cell? ⟨w.heap.size + 1, 1, none⟩ = some (.int .i64 k) := HZ.out.cell 1 _ rfl
      have z2 : wz.cell? ⟨w.heap.size + 1, 2, none⟩ = some (.bool true) := HZ.out.cell 2 _ rfl
      have z3 : wz.cell? ⟨w.heap.size + 1, 3, none⟩ = some (.bool true) := HZ.out.cell 3 _ rfl
      refine afterStep_ret rfl rfl z0 z1 z2 z3 ⟨gg, cc, ?_, ?_, HXX.out⟩
      · rw [HST.out]
      · rw [HST.out]; exact HY.out
set_option maxRecDepth 100000 in
set_option maxHeartbeats 8000000 in
theorem afterStep_alu (A A' : Option Addr) (n c c' : Nat) (xs : List Ins) (rs : List Int) (k : Nat) (zero : Bool) (op xa xb xn : Int) (w : World) (hr : Reads w w.heap.size 4 A n (FL xs)) (hn : n ≤ 1048576) (hr' : Reads w w.heap.size 1 A' 4 (I rs))
    (hk : k < n) (hx : xs[k]? = some ⟨op, xa, xb, xn⟩) (hok : Ok ⟨op, xa, xb, xn⟩) (hrs : ∀ z ∈ rs, 0 ≤ z ∧ z ≤ 65535) (h1 : 1 ≤ op) (h6 : op ≤ 6) :
    Calls Tryd.prog 55 #[.slice A n c, .agg #[.slice A' 4 c', .int .i64 k, .bool zero, .bool false]] w fun e w' => ∃ gg cc, e = .returned (.agg #[.slice (some ⟨gg, 0, none⟩) 4 cc, .int .i64 (stepOf xs ⟨rs, k, zero, false⟩).place, .bool (stepOf xs ⟨rs, k, zero, false⟩).zero, .bool (stepOf xs ⟨rs, k, zero, false⟩).stopped]) ∧
      w'.ownsRow w.heap.size 3 1 (.slice (some ⟨gg, 0, none⟩) 4 cc) 4 (I (stepOf xs ⟨rs, k, zero, false⟩).r) ∧ Below w.heap.size w w' := by
  obtain ⟨b2, o2, rfl, hb2, _⟩ := hr'.2 (by omega)
  have hL : xs.length = n := reads_len hr
  have hget : xs.getD ((k : Int).toNat) default = ⟨op, xa, xb, xn⟩ := by rw [Int.toNat_natCast, List.getD, hx]; rfl
  have hk4 := hok.2.1
  have hk5 := hok.2.2.1
  have hk6 := cntA_le op
  have hk7 := cntB_le op
  have hn3 := hok.2.2.2
  have hn4 := mostN_le op
  simp only at hk4 hk5 hn3
  obtain ⟨ka, rfl⟩ := Int.eq_ofNat_of_zero_le hk4.1
  obtain ⟨kb, rfl⟩ := Int.eq_ofNat_of_zero_le hk5.1
  have hka : ka < 4 := by omega
  have hkb : kb < 4 := by omega
  have hn6 : op = 6 → xn ≤ 15 := by
    rintro rfl
    have : mostN 6 = 15 := rfl
    omega
  have hnn : 0 ≤ xn ∧ xn ≤ 65535 := by omega
  obtain ⟨u, hu⟩ : ∃ u, rs.getD ka 0 = u := ⟨_, rfl⟩
  obtain ⟨v2, hv2⟩ : ∃ v, rs.getD kb 0 = v := ⟨_, rfl⟩
  have hur : 0 ≤ u ∧ u ≤ 65535 := by rw [← hu]; exact getD_range hrs
  have hvr : 0 ≤ v2 ∧ v2 ≤ 65535 := by rw [← hv2]; exact getD_range hrs
  obtain ⟨y, hy⟩ : ∃ y, valueOf ⟨op, ka, kb, xn⟩ u v2 = y := ⟨_, rfl⟩
  have HU := Lib.hid hu
  have HV := Lib.hid hv2
  have HY0 := Lib.hid hy
  have h0 : ¬ op = 0 := by omega
  have h7 : ¬ op = 7 := by omega
  have h8 : ¬ op = 8 := by omega
  have h9 : ¬ op = 9 := by omega
  have HC := Lib.hid fun (w' : World) (g c2 : Nat) (hl : g < w'.heap.size) (ca : w'.cell? ⟨g, 0 + ka, none⟩ = some (.int .i64 u)) (cb : w'.cell? ⟨g, 0 + kb, none⟩ = some (.int .i64 v2)) => computed_any op xn ka kb u v2 g 0 c2 w' h1 h6 hka hkb hnn.1 hnn.2 hn6 hur hvr hl ca cb
  rw [hy] at HC
  have HGET := Lib.hid hget
  have HL := Lib.hid hL
  clear hu hv2 hy hk4 hk5 hk6 hk7 hn3 hn4 hn6 hok
  have hb0 := below_more (below_more (Below.refl w.heap.size w) (.cells #[.slice (some ⟨b2, o2, none⟩) 4 c', .int .i64 k, .bool zero, .bool false] 40)) (.cells #[.slice none 0 0, .int .i64 0, .bool false, .bool false] 40)
  have HR1 := Lib.hid ((hr'.below hb0).more hb0.size)
  have HP1 := Lib.hid (hr.below hb0)
  have HX := Lib.hid hx
  have HRS := Lib.hid hrs
  have hlen := hr'.len
  rw [I_len] at hlen
  have HLEN := Lib.hid hlen
  clear hr hr' hb0 hx hrs hget hlen
  go_enter Tryd.func55, Tryd.ntmps55
  go_wp2_with fail
  refine (clone_some b2 o2 4 c' _ rs _ HR1.out (by omega) (by omega)).mono ?_
  rintro e w1 ⟨gg, cc, rfl, hown, hb⟩
  have hG := Blk.kept hb (Blk.alloc (Blk.new _ _ _) _)
  have hR := Blk.kept hb (Blk.new _ _ _)
  rw [size1] at hR
  have hgg := (hown.lt gg rfl).1
  have hgl := (hown.lt gg rfl).2
  rw [size1, size1] at hgg
  have HO := Lib.hid (own_mono hown (b' := w.heap.size) (by rw [size1, size1]; omega))
  have hs : w.heap.size + 2 ≤ w1.heap.size := by have := hb.size; rw [size1, size1] at this; omega
  have hs1 : w.heap.size < w1.heap.size := by omega
  have hs2 : w.heap.size + 1 < w1.heap.size := by omega
  have HW := Lib.hid (below_then (below_more (below_more (Below.refl w.heap.size w) _) _) hb)
  have hP := HP1.out.keep (w' := w1) (fun p hp => hb.cell (by rw [size1, size1]; omega))
  have HR := Lib.hid hR
  have HG := Lib.hid hG
  obtain ⟨b1, o1, y, rfl, hb1, hy, c0, c1, c2, c3⟩ := ins_at hP hk
  have hb3 : b1 < w1.heap.size := by omega
  obtain rfl : y = ⟨op, ka, kb, xn⟩ := by rw [HX.out] at hy; exact (Option.some.inj hy).symm
  clear hb hown hG hR hP hy HR1 HP1
  have k0 := HG.out.cell 0 _ rfl
  have k1 := HG.out.cell 1 _ rfl
  have k2 := HG.out.cell 2 _ rfl
  have k3 := HG.out.cell 3 _ rfl
  have r0 := HR.out.cell 0 _ rfl
  have r1 := HR.out.cell 1 _ rfl
  have r2 := HR.out.cell 2 _ rfl
  have r3 := HR.out.cell 3 _ rfl
  have fk0 := HG.out.free 0
  have fk1 := HG.out.free 1
  have fk2 := HG.out.free 2
  have fk3 := HG.out.free 3
  have fr0 := HR.out.free 0
  have fr1 := HR.out.free 1
  have fr2 := HR.out.free 2
  have fr3 := HR.out.free 3
  have hnG : (Value.slice (some ⟨gg, 0, none⟩) 4 cc).ownBlock ≠ some w.heap.size := by
    intro e
    injection e with e
    simp only at e
    omega
  have hnR : (Value.slice (some ⟨gg, 0, none⟩) 4 cc).ownBlock ≠ some (w.heap.size + 1) := by
    intro e
    injection e with e
    simp only at e
    omega
  go_wp2_with fail
  have hGv := (Blk.alloc (Blk.set HG.out 0 (.slice (some ⟨gg, 0, none⟩) 4 cc)) (.cells #[.int .i64 op, .int .i64 ka, .int .i64 kb, .int .i64 xn] 25))
  have hRv := (Blk.alloc (Blk.other HR.out (.slice (some ⟨gg, 0, none⟩) 4 cc) (g' := w.heap.size) (j := 0) (by omega)) (.cells #[.int .i64 op, .int .i64 ka, .int .i64 kb, .int .i64 xn] 25))
  have hOv := (own_more (own_set HO.out (.slice (some ⟨gg, 0, none⟩) 4 cc) (g := w.heap.size) (j := 0) hnG) (.cells #[.int .i64 op, .int .i64 ka, .int .i64 kb, .int .i64 xn] 25))
  have hBv := (below_more (below_set HW.out (g := w.heap.size) (j := 0) (by omega) (.slice (some ⟨gg, 0, none⟩) 4 cc)) (.cells #[.int .i64 op, .int .i64 ka, .int .i64 kb, .int .i64 xn] 25))
  have hXv := Blk.new (w1.setCell ⟨w.heap.size, 0, none⟩ (.slice (some ⟨gg, 0, none⟩) 4 cc)) #[.int .i64 op, .int .i64 ka, .int .i64 kb, .int .i64 xn] 25
  rw [show (w1.setCell ⟨w.heap.size, 0, none⟩ (.slice (some ⟨gg, 0, none⟩) 4 cc)).heap.size = w1.heap.size by simp] at hXv
  obtain ⟨v, hv⟩ : ∃ v, ((w1.setCell ⟨w.heap.size, 0, none⟩ (.slice (some ⟨gg, 0, none⟩) 4 cc)).alloc (.cells #[.int .i64 op, .int .i64 ka, .int .i64 kb, .int .i64 xn] 25)) = v := ⟨_, rfl⟩
  rw [hv] at hXv hGv hRv hOv hBv ⊢
  clear hv k0 k1 k2 k3 r0 r1 r2 r3 fk0 fk1 fk2 fk3 fr0 fr1 fr2 fr3 HG HR HO HW
  have HX2 := Lib.hid hXv
  have HG := Lib.hid hGv
  have HR := Lib.hid hRv
  have HO := Lib.hid hOv
  have HW := Lib.hid hBv
  clear hXv hGv hRv hOv hBv
  have k0 : v.cell? ⟨w.heap.size, 0, none⟩ = some (.slice (some ⟨gg, 0, none⟩) 4 cc) := HG.out.cell 0 _ rfl
  have fk0 := HG.out.free 0
  have r0 := HR.out.cell 0 _ rfl
  have fr0 := HR.out.free 0
  have k1 : v.cell? ⟨w.heap.size, 1, none⟩ = some (.int .i64 k) := HG.out.cell 1 _ rfl
  have fk1 := HG.out.free 1
  have r1 := HR.out.cell 1 _ rfl
  have fr1 := HR.out.free 1
  have k2 : v.cell? ⟨w.heap.size, 2, none⟩ = some (.bool zero) := HG.out.cell 2 _ rfl
  have fk2 := HG.out.free 2
  have r2 := HR.out.cell 2 _ rfl
  have fr2 := HR.out.free 2
  have k3 : v.cell? ⟨w.heap.size, 3, none⟩ = some (.bool false) := HG.out.cell 3 _ rfl
  have fk3 := HG.out.free 3
  have r3 := HR.out.cell 3 _ rfl
  have fr3 := HR.out.free 3
  have x0 := HX2.out.cell 0 _ rfl
  have x1 := HX2.out.cell 1 _ rfl
  have x2 := HX2.out.cell 2 _ rfl
  have x3 := HX2.out.cell 3 _ rfl
  have hrl : rs.length = 4 := HLEN.out
  have ca : v.cell? ⟨gg, 0 + ka, none⟩ = some (.int .i64 u) := by
    rw [Nat.zero_add, HO.out.cellAt ka (by omega)]
    refine I_at ?_
    have hu := HU.out
    rw [List.getD, List.getElem?_eq_getElem (by omega)] at hu
    rw [List.getElem?_eq_getElem (by omega), ← hu]
    rfl
  have cb : v.cell? ⟨gg, 0 + kb, none⟩ = some (.int .i64 v2) := by
    rw [Nat.zero_add, HO.out.cellAt kb (by omega)]
    refine I_at ?_
    have hu := HV.out
    rw [List.getD, List.getElem?_eq_getElem (by omega)] at hu
    rw [List.getElem?_eq_getElem (by omega), ← hu]
    rfl
  have hgv : gg < v.heap.size := (HO.out.lt gg rfl).2
  have HCA := Lib.hid ca
  have HCB := Lib.hid cb
  have hne1 : ¬ (w.heap.size = gg) := by omega
  have hne2 : ¬ (w1.heap.size = gg) := by omega
  have hki0 : (0 : Int) ≤ (ka : Int) := by omega
  have hki1 : (ka : Int) < 4 := by omega
  clear ca cb hrl fk0 fk1 fk2 fk3 r0 r1 r2 r3 fr0 fr1 fr2 fr3
  go_region_held3 (fun w' => w'.cell? ⟨w.heap.size, 0, none⟩ = some (.slice (some ⟨gg, 0, none⟩) 4 cc) ∧ w'.cell? ⟨w1.heap.size, 0, none⟩ = some (.int .i64 op) ∧ w'.cell? ⟨w1.heap.size, 1, none⟩ = some (.int .i64 ka) ∧ w'.cell? ⟨w1.heap.size, 2, none⟩ = some (.int .i64 kb) ∧ w'.cell? ⟨w1.heap.size, 3, none⟩ = some (.int .i64 xn)) (first | exact ⟨k0, x0, x1, x2, x3⟩ | exact ⟨s0, s1, s2, s3, s4⟩ | go_keep)
    (first
      | (go_at_call 73; refine (HC.out v.drew gg cc hgv HCA.out HCB.out).mono ?_; rintro e w2 ⟨rfl, hb⟩; replace hb : Below v.heap.size v w2 := (show Below v.heap.size v v.drew from ⟨rfl, rfl, rfl, Nat.le_refl _, fun _ _ => rfl⟩).trans hb; replace HG := Lib.hid (Blk.kept hb HG.out); replace HR := Lib.hid (Blk.kept hb HR.out); replace HX2 := Lib.hid (Blk.kept hb HX2.out); replace HO := Lib.hid (own_below HO.out hb); replace HW := Lib.hid (below_then HW.out hb); have hcw : w2.cell? ⟨gg, ka, none⟩ = some (.int .i64 u) := (by rw [hb.cell (p := ⟨gg, ka, none⟩) hgv, ← HCA.out, Nat.zero_add]); clear hb; have hfw := HO.out.frozenAt ka; replace k0 : w2.cell? ⟨w.heap.size, 0, none⟩ = some (.slice (some ⟨gg, 0, none⟩) 4 cc) := HG.out.cell 0 _ rfl; replace x0 : w2.cell? ⟨w1.heap.size, 0, none⟩ = some (.int .i64 op) := HX2.out.cell 0 _ rfl; replace x1 : w2.cell? ⟨w1.heap.size, 1, none⟩ = some (.int .i64 ka) := HX2.out.cell 1 _ rfl; replace x2 : w2.cell? ⟨w1.heap.size, 2, none⟩ = some (.int .i64 kb) := HX2.out.cell 2 _ rfl; replace x3 : w2.cell? ⟨w1.heap.size, 3, none⟩ = some (.int .i64 xn) := HX2.out.cell 3 _ rfl; have HGs := Lib.hid (Blk.other HG.out (.int .i64 y) (g' := gg) (j := ka) hne1); have HXs := Lib.hid (Blk.other HX2.out (.int .i64 y) (g' := gg) (j := ka) hne2); have s0 := HGs.out.cell 0 _ rfl; have s1 := HXs.out.cell 0 _ rfl; have s2 := HXs.out.cell 1 _ rfl; have s3 := HXs.out.cell 2 _ rfl; have s4 := HXs.out.cell 3 _ rfl))
  replace k0 : w2.cell? ⟨w.heap.size, 0, none⟩ = some (.slice (some ⟨gg, 0, none⟩) 4 cc) := HG.out.cell 0 _ rfl
  have fk0 := HG.out.free 0
  have r0 := HR.out.cell 0 _ rfl
  have fr0 := HR.out.free 0
  replace k1 : w2.cell? ⟨w.heap.size, 1, none⟩ = some (.int .i64 k) := HG.out.cell 1 _ rfl
  have fk1 := HG.out.free 1
  have r1 := HR.out.cell 1 _ rfl
  have fr1 := HR.out.free 1
  replace k2 : w2.cell? ⟨w.heap.size, 2, none⟩ = some (.bool zero) := HG.out.cell 2 _ rfl
  have fk2 := HG.out.free 2
  have r2 := HR.out.cell 2 _ rfl
  have fr2 := HR.out.free 2
  replace k3 : w2.cell? ⟨w.heap.size, 3, none⟩ = some (.bool false) := HG.out.cell 3 _ rfl
  have fk3 := HG.out.free 3
  have r3 := HR.out.cell 3 _ rfl
  have fr3 := HR.out.free 3
  clear x0 x2 x3 s0 s1 s2 s3 s4 HGs HXs
  by_cases hnx : (k : Int) + 1 < (n : Int)
  ·
    have hnx2 : ¬ ((n : Int) ≤ (k : Int) + 1) := by omega
    have hst : stepOf xs ⟨rs, k, zero, false⟩ = ⟨rs.set ka y, (k : Int) + 1, (y == 0), false⟩ := by
      unfold stepOf nextOf
      simp only [HGET.out]
      simp only [HL.out, Int.toNat_natCast, HU.out, HV.out, HY0.out]
      simp [hnx, hnx2, h0, h7, h8, h9, h1, h6]
      all_goals rfl
    have HST := Lib.hid hst
    clear hst
    go_wp2_with fail
    refine (isBelow_yes ((k : Int) + 1) n (by omega) hnx _).mono ?_
    rintro e w3 ⟨rfl, hw⟩
    subst hw
    go_wp2_with fail
    have hZ := (Blk.set (Blk.set (Blk.set (Blk.set (Blk.other (Blk.other (Blk.other HR.out (.int .i64 y) (g' := gg) (j := ka) (by omega)) (.bool (y == 0)) (g' := w.heap.size) (j := 2) (by omega)) (.int .i64 ((k : Int) + 1)) (g' := w.heap.size) (j := 1) (by omega)) 0 (.slice (some ⟨gg, 0, none⟩) 4 cc)) 1 (.int .i64 ((k : Int) + 1))) 2 (.bool (y == 0))) 3 (.bool false))
    have hY := (own_set (own_set (own_set (own_set (own_set (own_set (World.ownsRow.stored HO.out ka (.int .i64 y)).1 (.bool (y == 0)) (g := w.heap.size) (j := 2) hnG) (.int .i64 ((k : Int) + 1)) (g := w.heap.size) (j := 1) hnG) (.slice (some ⟨gg, 0, none⟩) 4 cc) (g := w.heap.size + 1) (j := 0) hnR) (.int .i64 ((k : Int) + 1)) (g := w.heap.size + 1) (j := 1) hnR) (.bool (y == 0)) (g := w.heap.size + 1) (j := 2) hnR) (.bool false) (g := w.heap.size + 1) (j := 3) hnR)
    have hX := (below_set (below_set (below_set (below_set (below_set (below_set (below_set HW.out (g := gg) (j := ka) (by omega) (.int .i64 y)) (g := w.heap.size) (j := 2) (by omega) (.bool (y == 0))) (g := w.heap.size) (j := 1) (by omega) (.int .i64 ((k : Int) + 1))) (g := w.heap.size + 1) (j := 0) (by omega) (.slice (some ⟨gg, 0, none⟩) 4 cc)) (g := w.heap.size + 1) (j := 1) (by omega) (.int .i64 ((k : Int) + 1))) (g := w.heap.size + 1) (j := 2) (by omega) (.bool (y == 0))) (g := w.heap.size + 1) (j := 3) (by omega) (.bool false))
    have HZ := Lib.hid hZ
    have HY := Lib.hid hY
    have HXX := Lib.hid hX
    clear hZ hY hX k0 k1 k2 k3 r0 r1 r2 r3 fk0 fk1 fk2 fk3 fr0 fr1 fr2 fr3
    revert HZ HY HXX
    generalize (((((((w2.setCell _ _).setCell _ _).setCell _ _).setCell _ _).setCell _ _).setCell _ _).setCell _ _) = wz
    intro HZ HY HXX
    have z0 : wz.cell? ⟨w.heap.size + 1, 0, none⟩ = some (.slice (some ⟨gg, 0, none⟩) 4 cc) := HZ.out.cell 0 _ rfl
    have z1 : wz.cell? ⟨w.heap.size + 1, 1, none⟩ = some (.int .i64 ((k : Int) + 1)) := HZ.out.cell 1 _ rfl
    have z2 : wz.cell? ⟨w.heap.size + 1, 2, none⟩ = some (.bool (y == 0)) := HZ.out.cell 2 _ rfl
    have z3 : wz.cell? ⟨w.heap.size + 1, 3, none⟩ = some (.bool false) := HZ.out.cell 3 _ rfl
    refine afterStep_ret rfl rfl z0 z1 z2 z3 ⟨gg, cc, ?_, ?_, HXX.out⟩
    · rw [HST.out]
    · rw [HST.out]; rw [← I_set]; exact HY.out
  ·
    have hnx2 : (n : Int) ≤ (k : Int) + 1 := by omega
    have hst : stepOf xs ⟨rs, k, zero, false⟩ = ⟨rs.set ka y, k, (y == 0), true⟩ := by
      unfold stepOf nextOf
      simp only [HGET.out]
      simp only [HL.out, Int.toNat_natCast, HU.out, HV.out, HY0.out]
      simp [hnx, hnx2, h0, h7, h8, h9, h1, h6]
      all_goals rfl
    have HST := Lib.hid hst
    clear hst
    go_wp2_with fail
    refine (isBelow_no ((k : Int) + 1) n (by omega) _).mono ?_
    rintro e w3 ⟨rfl, hw⟩
    subst hw
    go_wp2_with fail
    have hZ := (Blk.set (Blk.set (Blk.set (Blk.set (Blk.other (Blk.other (Blk.other HR.out (.int .i64 y) (g' := gg) (j := ka) (by omega)) (.bool (y == 0)) (g' := w.heap.size) (j := 2) (by omega)) (.bool true) (g' := w.heap.size) (j := 3) (by omega)) 0 (.slice (some ⟨gg, 0, none⟩) 4 cc)) 1 (.int .i64 k)) 2 (.bool (y == 0))) 3 (.bool true))
    have hY := (own_set (own_set (own_set (own_set (own_set (own_set (World.ownsRow.stored HO.out ka (.int .i64 y)).1 (.bool (y == 0)) (g := w.heap.size) (j := 2) hnG) (.bool true) (g := w.heap.size) (j := 3) hnG) (.slice (some ⟨gg, 0, none⟩) 4 cc) (g := w.heap.size + 1) (j := 0) hnR) (.int .i64 k) (g := w.heap.size + 1) (j := 1) hnR) (.bool (y == 0)) (g := w.heap.size + 1) (j := 2) hnR) (.bool true) (g := w.heap.size + 1) (j := 3) hnR)
    have hX := (below_set (below_set (below_set (below_set (below_set (below_set (below_set HW.out (g := gg) (j := ka) (by omega) (.int .i64 y)) (g := w.heap.size) (j := 2) (by omega) (.bool (y == 0))) (g := w.heap.size) (j := 3) (by omega) (.bool true)) (g := w.heap.size + 1) (j := 0) (by omega) (.slice (some ⟨gg, 0, none⟩) 4 cc)) (g := w.heap.size + 1) (j := 1) (by omega) (.int .i64 k)) (g := w.heap.size + 1) (j := 2) (by omega) (.bool (y == 0))) (g := w.heap.size + 1) (j := 3) (by omega) (.bool true))
    have HZ := Lib.hid hZ
    have HY := Lib.hid hY
    have HXX := Lib.hid hX
    clear hZ hY hX k0 k1 k2 k3 r0 r1 r2 r3 fk0 fk1 fk2 fk3 fr0 fr1 fr2 fr3
    revert HZ HY HXX
    generalize (((((((w2.setCell _ _).setCell _ _).setCell _ _).setCell _ _).setCell _ _).setCell _ _).setCell _ _) = wz
    intro HZ HY HXX
    have z0 : wz.cell? ⟨w.heap.size + 1, 0, none⟩ = some (.slice (some ⟨gg, 0, none⟩) 4 cc) := HZ.out.cell 0 _ rfl
    have z1 : wz.cell? ⟨w.heap.size + 1, 1, none⟩ = some (.int .i64 k) := HZ.out.cell 1 _ rfl
    have z2 : wz.cell? ⟨w.heap.size + 1, 2, none⟩ = some (.bool (y == 0)) := HZ.out.cell 2 _ rfl
    have z3 : wz.cell? ⟨w.heap.size + 1, 3, none⟩ = some (.bool true) := HZ.out.cell 3 _ rfl
    refine afterStep_ret rfl rfl z0 z1 z2 z3 ⟨gg, cc, ?_, ?_, HXX.out⟩
    · rw [HST.out]
    · rw [HST.out]; rw [← I_set]; exact HY.out
end Go.Proofs.YtfdbnolifimnhabDoor.L3
