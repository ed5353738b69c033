/- What impl.parseSlot answers to a word. -/
import Derived.Test.YtadpjkghfgnbbaaDoorPsW
import Derived.Test.YtadpjkghfgnbbaaDoorBlk
import Derived.Deep.Cut
namespace Go.Proofs.YtadpjkghfgnbbaaDoor.L8
open Go Go.RowKit Go.Proofs.YtadpjkghfgnbbaaDoor.Mem Go.Proofs.YtadpjkghfgnbbaaDoor.Own Go.Proofs.YtadpjkghfgnbbaaDoor.L1
/-- what strings.Cut asks of the world -/
def MxIs (w : World) : Prop := ∃ m : Int, w.cell? ⟨0, 0, none⟩ = some (.int .i64 m)
theorem mx_below {W W' : World} (h : Below W.heap.size W W') (hm : MxIs W) : MxIs W' := by
  obtain ⟨m, hm⟩ := hm
  exact ⟨m, (h.cell (p := ⟨0, 0, none⟩) (World.block_lt_of_cell? W _ hm)).trans hm⟩
theorem cut58 (s : ByteArray) (w : World) (hs : s.size ≤ 1048576) (hm : MxIs w) (a b : List UInt8) (f : Bool) (hc : Lib.cut s.data.toList [58] = (a, b, f)) :
    Calls Tryd.prog 37 #[.string s, .string { data := #[58] }] w fun e w' => e = .returned (.tuple #[.string ⟨a.toArray⟩, .string ⟨b.toArray⟩, .bool f]) ∧ Below w.heap.size w w' := by
  obtain ⟨m, hm⟩ := hm
  refine (Tryd.strings_Cut s { data := #[58] } m w (by omega) hm).mono ?_
  rintro e w' ⟨rfl, n, rfl⟩
  have e1 : Lib.cut s.data.toList ({ data := #[58] } : ByteArray).data.toList = (a, b, f) := hc
  rw [e1]
  exact ⟨rfl, below_drewN' _ _⟩
/-- parseSlot's answer -/
def PwE (s : ByteArray) (w : World) (e : Ending) (w' : World) : Prop :=
  ∃ (k i p : Int) (b : Bool), PwIs s ⟨k, i, p⟩ b ∧ e = .returned (.tuple #[.agg #[.int .i64 k, .int .i64 i, .int .i64 p], .bool b]) ∧ Below w.heap.size w w'
set_option maxRecDepth 100000 in
set_option maxHeartbeats 1600000 in
theorem parseSlot_dash (w : World) : Calls Tryd.prog 24 #[.string ⟨#[45]⟩] w (PwE ⟨#[45]⟩ w) := by
  obtain ⟨wb, hwb⟩ : ∃ wb, w.alloc (.cells #[.int .i64 0, .int .i64 0, .int .i64 0] 37) = wb := ⟨_, rfl⟩
  have HQ0 : Hid (Blk wb w.heap.size 37 #[.int .i64 0, .int .i64 0, .int .i64 0]) := Lib.hid (by rw [← hwb]; exact Blk.new _ _ _)
  have HB0 : Hid (Below w.heap.size w wb) := Lib.hid (by rw [← hwb]; exact below_more (Below.refl _ _) _)
  have HWB := Lib.hid hwb
  clear hwb
  go_enter Tryd.func24, Tryd.ntmps24
  go_upto_region 1 with fail
  rw [HWB.out]
  clear HWB
  have q0 := HQ0.out.cell 0 _ rfl
  have f0 := HQ0.out.free 0
  have q1 := HQ0.out.cell 1 _ rfl
  have f1 := HQ0.out.free 1
  have q2 := HQ0.out.cell 2 _ rfl
  have f2 := HQ0.out.free 2
  go_wp2_with fail
  have hZ := Lib.hid (((HQ0.out.set 0 (.int .i64 0)).set 1 (.int .i64 0)).set 2 (.int .i64 0))
  have hX := Lib.hid (below_set (below_set (below_set HB0.out (g := w.heap.size) (j := 0) (Nat.le_refl _) (.int .i64 0)) (g := w.heap.size) (j := 1) (Nat.le_refl _) (.int .i64 0)) (g := w.heap.size) (j := 2) (Nat.le_refl _) (.int .i64 0))
  clear q0 f0 q1 f1 q2 f2
  revert hZ hX
  generalize (World.setCell (World.setCell (World.setCell _ _ _) _ _) _ _) = wz
  intro hZ hX
  have z0 := hZ.out.cell 0 _ rfl
  have z1 := hZ.out.cell 1 _ rfl
  have z2 := hZ.out.cell 2 _ rfl
  exact bodyPost_ret (v := .tuple #[.agg #[.int .i64 0, .int .i64 0, .int .i64 0], .bool true]) (by simp [results, Tryd.results24, go_sem, z0, z1, z2]) rfl ⟨0, 0, 0, true, .inl ⟨rfl, .inl ⟨rfl, rfl⟩⟩, rfl, hX.out⟩
set_option maxRecDepth 100000 in
set_option maxHeartbeats 1600000 in
theorem parseSlot_none (s : ByteArray) (hs : s.size ≤ 1048576) (w : World) (hm : MxIs w) (hd : s ≠ ⟨#[45]⟩) (b : List UInt8) (f : Bool) (hc : Lib.cut s.data.toList [58] = ([], b, f)) :
    Calls Tryd.prog 24 #[.string s] w (PwE s w) := by
  have HP := Lib.hid (pw_none hd hc ⟨0, 0, 0⟩)
  have HC := Lib.hid (fun w hm => cut58 s w hs hm [] b f hc)
  have e45 : ({ data := #[45] } : ByteArray).toList = [45] := by kernel_rfl
  have t1 : (s.toList == [45]) = false := by rw [← e45]; exact toList_ne hd
  have HM := Lib.hid hm
  clear hm hd hc
  obtain ⟨wb, hwb⟩ : ∃ wb, w.alloc (.cells #[.int .i64 0, .int .i64 0, .int .i64 0] 37) = wb := ⟨_, rfl⟩
  have HQ0 : Hid (Blk wb w.heap.size 37 #[.int .i64 0, .int .i64 0, .int .i64 0]) := Lib.hid (by rw [← hwb]; exact Blk.new _ _ _)
  have HB0 : Hid (Below w.heap.size w wb) := Lib.hid (by rw [← hwb]; exact below_more (Below.refl _ _) _)
  have HWB := Lib.hid hwb
  clear hwb
  go_enter Tryd.func24, Tryd.ntmps24
  go_upto_region 1 with fail
  rw [HWB.out]
  clear HWB
  go_wp2_with fail
  refine (HC.out _ (mx_below HB0.out HM.out)).mono ?_
  rintro e w1 ⟨rfl, hb1⟩
  have HB := Lib.hid (below_then HB0.out hb1)
  have HQ := Lib.hid (Blk.kept hb1 HQ0.out)
  clear hb1
  have q0 := HQ.out.cell 0 _ rfl
  have f0 := HQ.out.free 0
  have q1 := HQ.out.cell 1 _ rfl
  have f1 := HQ.out.free 1
  have q2 := HQ.out.cell 2 _ rfl
  have f2 := HQ.out.free 2
  go_wp2_with fail
  have hZ := Lib.hid (((HQ.out.set 0 (.int .i64 0)).set 1 (.int .i64 0)).set 2 (.int .i64 0))
  have hX := Lib.hid (below_set (below_set (below_set HB.out (g := w.heap.size) (j := 0) (Nat.le_refl _) (.int .i64 0)) (g := w.heap.size) (j := 1) (Nat.le_refl _) (.int .i64 0)) (g := w.heap.size) (j := 2) (Nat.le_refl _) (.int .i64 0))
  clear q0 f0 q1 f1 q2 f2
  revert hZ hX
  generalize (World.setCell (World.setCell (World.setCell _ _ _) _ _) _ _) = wz
  intro hZ hX
  have z0 := hZ.out.cell 0 _ rfl
  have z1 := hZ.out.cell 1 _ rfl
  have z2 := hZ.out.cell 2 _ rfl
  exact bodyPost_ret (v := .tuple #[.agg #[.int .i64 0, .int .i64 0, .int .i64 0], .bool false]) (by simp [results, Tryd.results24, go_sem, z0, z1, z2]) rfl ⟨0, 0, 0, false, HP.out, rfl, hX.out⟩
set_option maxRecDepth 100000 in
set_option maxHeartbeats 1600000 in
theorem parseSlot_neg (s : ByteArray) (hs : s.size ≤ 1048576) (w : World) (hm : MxIs w) (ht : TbIs w) (he : ErrsIs w) (hd : s ≠ ⟨#[45]⟩) (m : UInt8) (r b : List UInt8) (f : Bool) (hc : Lib.cut s.data.toList [58] = (m :: r, b, f))
    (hk : mkI m = -1) (i p : Int) (hi hp : Bool) (h1 : ReadIs ⟨r.toArray⟩ i hi) (h2 : ReadIs ⟨b.toArray⟩ p hp) (y1 : r.length ≤ 1048575) (y2 : b.length ≤ 1048576) :
    Calls Tryd.prog 24 #[.string s] w (PwE s w) := by
  have HP : Hid (PwIs s ⟨0, i, p⟩ false) := Lib.hid (by
    have h := pw_of hd hc h1 h2
    rw [hk] at h
    rcases h with ⟨h, _⟩ | ⟨_, h⟩
    · cases h
    · exact .inr ⟨rfl, h⟩)
  have HC := Lib.hid (fun w hm => cut58 s w hs hm (m :: r) b f hc)
  have e45 : ({ data := #[45] } : ByteArray).toList = [45] := by kernel_rfl
  have t1 : (s.toList == [45]) = false := by rw [← e45]; exact toList_ne hd
  have H1 : Hid (∀ w, TbIs w → ErrsIs w → Calls Tryd.prog 39 #[.string ⟨r.toArray⟩] w fun e w' => e = .returned (.tuple #[.int .i64 i, .bool hi]) ∧ Below w.heap.size w w') := Lib.hid (fun w ht he => implParseInt ⟨r.toArray⟩ i hi h1 w (by show r.toArray.size ≤ _; rw [List.size_toArray]; omega) ht he)
  have H2 : Hid (∀ w, TbIs w → ErrsIs w → Calls Tryd.prog 39 #[.string ⟨b.toArray⟩] w fun e w' => e = .returned (.tuple #[.int .i64 p, .bool hp]) ∧ Below w.heap.size w w') := Lib.hid (fun w ht he => implParseInt ⟨b.toArray⟩ p hp h2 w (by show b.toArray.size ≤ _; rw [List.size_toArray]; omega) ht he)
  obtain ⟨A, hA⟩ : ∃ A : ByteArray, ⟨(m :: r).toArray⟩ = A := ⟨_, rfl⟩
  obtain ⟨R, hR⟩ : ∃ R : ByteArray, ⟨r.toArray⟩ = R := ⟨_, rfl⟩
  obtain ⟨Y, hY⟩ : ∃ Y : ByteArray, ⟨b.toArray⟩ = Y := ⟨_, rfl⟩
  have hAz : A.size = r.length + 1 := by rw [← hA]; show (m :: r).toArray.size = _; simp
  have hA0 : A ≠ ⟨#[]⟩ := by intro h; rw [h] at hAz; have h0 : ({ data := #[] } : ByteArray).size = 0 := rfl; omega
  have e0 : ({ data := #[] } : ByteArray).toList = [] := by kernel_rfl
  have t2 : (A.toList == []) = false := by rw [← e0]; exact toList_ne hA0
  have hAm : ∀ h : 0 < A.size, (A[0]'h).toNat = m.toNat := by subst hA; intro h; rfl
  have hAr : A.extract 1 A.size = R := by
    rw [← hR]
    apply ByteArray.ext
    rw [← Array.toList_inj, ByteArray.data_extract, ← hA]
    simp [List.extract_eq_take_drop, ByteArray.size]
  obtain ⟨mz, hmz⟩ : ∃ mz : Int, (m.toNat : Int) = mz := ⟨_, rfl⟩
  have hix : ∀ wx, (Instr.index 9 (.string A) (.int .i64 0)).run Tryd.prog wx = .ok (.int .u8 mz) wx := by
    intro wx
    rw [run_index_string (P := Tryd.prog) (w := wx) 9 A .i64 0 Tryd.underlying9, dif_pos ⟨by omega, by omega⟩, ← hmz]
    exact congrArg (fun n : Nat => Result.ok (Value.int .u8 n) wx) (hAm (by omega))
  have hsl : ∀ wx, (Instr.slice 9 (.string A) (some (.int .i64 1)) none none).run Tryd.prog wx = .ok (.string R) wx := by
    intro wx
    rw [run_slice_string_from_if (P := Tryd.prog) (w := wx) 9 A .i64 1 Tryd.underlying9, if_pos ⟨by omega, by omega⟩]
    show Result.ok (Value.string (A.extract 1 A.size)) wx = _
    rw [hAr]
  rw [hA, hY] at HC
  rw [hR] at H1
  rw [hY] at H2
  obtain ⟨q, hq⟩ : ∃ q, mkI m = q := ⟨_, rfl⟩
  rw [hq] at hk
  have HI : Hid (∀ w, Calls Tryd.prog 38 #[.string { data := #[112, 97, 98] }, .int .u8 mz] w fun e w' => e = .returned (.int .i64 q) ∧ w' = w) := Lib.hid (by
    intro w
    refine (Tryd.strings_IndexByte { data := #[112, 97, 98] } mz w).mono ?_
    rintro e w' ⟨rfl, rfl⟩
    refine ⟨?_, rfl⟩
    rw [← hq, ← hmz]
    show Ending.returned (.int .i64 (Lib.indexByte [112, 97, 98] (m.toNat : Int).toNat.toUInt8)) = _
    rw [Int.toNat_natCast]
    have e1 : m.toNat.toUInt8 = m := by simp
    rw [e1]
    rfl)
  have HM := Lib.hid hm
  have HT := Lib.hid ht
  have HE := Lib.hid he
  clear hm ht he hd hc h1 h2 y1 y2 hA hR hY hAz hA0 hAm hAr hq e45 e0 hmz hs
  subst hk
  obtain ⟨wb, hwb⟩ : ∃ wb, w.alloc (.cells #[.int .i64 0, .int .i64 0, .int .i64 0] 37) = wb := ⟨_, rfl⟩
  have HQ0 : Hid (Blk wb w.heap.size 37 #[.int .i64 0, .int .i64 0, .int .i64 0]) := Lib.hid (by rw [← hwb]; exact Blk.new _ _ _)
  have HB0 : Hid (Below w.heap.size w wb) := Lib.hid (by rw [← hwb]; exact below_more (Below.refl _ _) _)
  have HWB := Lib.hid hwb
  clear hwb
  go_enter Tryd.func24, Tryd.ntmps24
  go_upto_region 1 with fail
  rw [HWB.out]
  clear HWB
  go_wp2_with fail
  refine (HC.out _ (mx_below HB0.out HM.out)).mono ?_
  rintro e w1 ⟨rfl, hb1⟩
  have HB1 := Lib.hid (below_then HB0.out hb1)
  have HQ1 := Lib.hid (Blk.kept hb1 HQ0.out)
  clear hb1
  go_wp2_with fail
  refine (HI.out _).mono ?_
  rintro e w2 ⟨rfl, rfl⟩
  go_wp2_with fail
  refine (H1.out _ (tb_below HB1.out HT.out) (errs_below HB1.out HE.out)).mono ?_
  rintro e w3 ⟨rfl, hb3⟩
  have HB3 := Lib.hid (below_then HB1.out hb3)
  have HQ3 := Lib.hid (Blk.kept hb3 HQ1.out)
  clear hb3
  go_wp2_with fail
  refine (H2.out _ (tb_below HB3.out HT.out) (errs_below HB3.out HE.out)).mono ?_
  rintro e w4 ⟨rfl, hb4⟩
  have HB4 := Lib.hid (below_then HB3.out hb4)
  have HQ4 := Lib.hid (Blk.kept hb4 HQ3.out)
  clear hb4
  have q0 := HQ4.out.cell 0 _ rfl
  have f0 := HQ4.out.free 0
  have q1 := HQ4.out.cell 1 _ rfl
  have f1 := HQ4.out.free 1
  have q2 := HQ4.out.cell 2 _ rfl
  have f2 := HQ4.out.free 2
  go_wp2_with fail
  have hZ := Lib.hid (((HQ4.out.set 0 (.int .i64 0)).set 1 (.int .i64 i)).set 2 (.int .i64 p))
  have hX := Lib.hid (below_set (below_set (below_set HB4.out (g := w.heap.size) (j := 0) (Nat.le_refl _) (.int .i64 0)) (g := w.heap.size) (j := 1) (Nat.le_refl _) (.int .i64 i)) (g := w.heap.size) (j := 2) (Nat.le_refl _) (.int .i64 p))
  clear q0 f0 q1 f1 q2 f2
  revert hZ hX
  generalize (World.setCell (World.setCell (World.setCell _ _ _) _ _) _ _) = wz
  intro hZ hX
  have z0 := hZ.out.cell 0 _ rfl
  have z1 := hZ.out.cell 1 _ rfl
  have z2 := hZ.out.cell 2 _ rfl
  exact bodyPost_ret (v := .tuple #[.agg #[.int .i64 0, .int .i64 i, .int .i64 p], .bool false]) (by simp [results, Tryd.results24, go_sem, z0, z1, z2]) rfl ⟨0, i, p, false, HP.out, rfl, hX.out⟩
set_option maxRecDepth 100000 in
set_option maxHeartbeats 1600000 in
theorem parseSlot_bad (s : ByteArray) (hs : s.size ≤ 1048576) (w : World) (hm : MxIs w) (ht : TbIs w) (he : ErrsIs w) (hd : s ≠ ⟨#[45]⟩) (m : UInt8) (r b : List UInt8) (f : Bool) (hc : Lib.cut s.data.toList [58] = (m :: r, b, f))
    (hk : 0 ≤ mkI m ∧ mkI m ≤ 2) (i p : Int) (hp : Bool) (h1 : ReadIs ⟨r.toArray⟩ i false) (h2 : ReadIs ⟨b.toArray⟩ p hp) (y1 : r.length ≤ 1048575) (y2 : b.length ≤ 1048576) :
    Calls Tryd.prog 24 #[.string s] w (PwE s w) := by
  have HP : Hid (PwIs s ⟨1 + mkI m, i, p⟩ false) := Lib.hid (by
    have h := pw_of hd hc h1 h2
    rw [decide_eq_true hk.1] at h; exact h)
  have HC := Lib.hid (fun w hm => cut58 s w hs hm (m :: r) b f hc)
  have e45 : ({ data := #[45] } : ByteArray).toList = [45] := by kernel_rfl
  have t1 : (s.toList == [45]) = false := by rw [← e45]; exact toList_ne hd
  have H1 : Hid (∀ w, TbIs w → ErrsIs w → Calls Tryd.prog 39 #[.string ⟨r.toArray⟩] w fun e w' => e = .returned (.tuple #[.int .i64 i, .bool false]) ∧ Below w.heap.size w w') := Lib.hid (fun w ht he => implParseInt ⟨r.toArray⟩ i false h1 w (by show r.toArray.size ≤ _; rw [List.size_toArray]; omega) ht he)
  have H2 : Hid (∀ w, TbIs w → ErrsIs w → Calls Tryd.prog 39 #[.string ⟨b.toArray⟩] w fun e w' => e = .returned (.tuple #[.int .i64 p, .bool hp]) ∧ Below w.heap.size w w') := Lib.hid (fun w ht he => implParseInt ⟨b.toArray⟩ p hp h2 w (by show b.toArray.size ≤ _; rw [List.size_toArray]; omega) ht he)
  obtain ⟨A, hA⟩ : ∃ A : ByteArray, ⟨(m :: r).toArray⟩ = A := ⟨_, rfl⟩
  obtain ⟨R, hR⟩ : ∃ R : ByteArray, ⟨r.toArray⟩ = R := ⟨_, rfl⟩
  obtain ⟨Y, hY⟩ : ∃ Y : ByteArray, ⟨b.toArray⟩ = Y := ⟨_, rfl⟩
  have hAz : A.size = r.length + 1 := by rw [← hA]; show (m :: r).toArray.size = _; simp
  have hA0 : A ≠ ⟨#[]⟩ := by intro h; rw [h] at hAz; have h0 : ({ data := #[] } : ByteArray).size = 0 := rfl; omega
  have e0 : ({ data := #[] } : ByteArray).toList = [] := by kernel_rfl
  have t2 : (A.toList == []) = false := by rw [← e0]; exact toList_ne hA0
  have hAm : ∀ h : 0 < A.size, (A[0]'h).toNat = m.toNat := by subst hA; intro h; rfl
  have hAr : A.extract 1 A.size = R := by
    rw [← hR]
    apply ByteArray.ext
    rw [← Array.toList_inj, ByteArray.data_extract, ← hA]
    simp [List.extract_eq_take_drop, ByteArray.size]
  obtain ⟨mz, hmz⟩ : ∃ mz : Int, (m.toNat : Int) = mz := ⟨_, rfl⟩
  have hix : ∀ wx, (Instr.index 9 (.string A) (.int .i64 0)).run Tryd.prog wx = .ok (.int .u8 mz) wx := by
    intro wx
    rw [run_index_string (P := Tryd.prog) (w := wx) 9 A .i64 0 Tryd.underlying9, dif_pos ⟨by omega, by omega⟩, ← hmz]
    exact congrArg (fun n : Nat => Result.ok (Value.int .u8 n) wx) (hAm (by omega))
  have hsl : ∀ wx, (Instr.slice 9 (.string A) (some (.int .i64 1)) none none).run Tryd.prog wx = .ok (.string R) wx := by
    intro wx
    rw [run_slice_string_from_if (P := Tryd.prog) (w := wx) 9 A .i64 1 Tryd.underlying9, if_pos ⟨by omega, by omega⟩]
    show Result.ok (Value.string (A.extract 1 A.size)) wx = _
    rw [hAr]
  rw [hA, hY] at HC
  rw [hR] at H1
  rw [hY] at H2
  obtain ⟨q, hq⟩ : ∃ q, mkI m = q := ⟨_, rfl⟩
  rw [hq] at HP hk
  have HI : Hid (∀ w, Calls Tryd.prog 38 #[.string { data := #[112, 97, 98] }, .int .u8 mz] w fun e w' => e = .returned (.int .i64 q) ∧ w' = w) := Lib.hid (by
    intro w
    refine (Tryd.strings_IndexByte { data := #[112, 97, 98] } mz w).mono ?_
    rintro e w' ⟨rfl, rfl⟩
    refine ⟨?_, rfl⟩
    rw [← hq, ← hmz]
    show Ending.returned (.int .i64 (Lib.indexByte [112, 97, 98] (m.toNat : Int).toNat.toUInt8)) = _
    rw [Int.toNat_natCast]
    have e1 : m.toNat.toUInt8 = m := by simp
    rw [e1]
    rfl)
  have HM := Lib.hid hm
  have HT := Lib.hid ht
  have HE := Lib.hid he
  clear hm ht he hd hc h1 h2 y1 y2 hA hR hY hAz hA0 hAm hAr hq e45 e0 hmz hs
  obtain ⟨hk0, hk1⟩ := hk
  have hw1 : IntKind.i64.wrap (1 + q) = 1 + q := IntWalk.i64_in _ (by omega)
  obtain ⟨wb, hwb⟩ : ∃ wb, w.alloc (.cells #[.int .i64 0, .int .i64 0, .int .i64 0] 37) = wb := ⟨_, rfl⟩
  have HQ0 : Hid (Blk wb w.heap.size 37 #[.int .i64 0, .int .i64 0, .int .i64 0]) := Lib.hid (by rw [← hwb]; exact Blk.new _ _ _)
  have HB0 : Hid (Below w.heap.size w wb) := Lib.hid (by rw [← hwb]; exact below_more (Below.refl _ _) _)
  have HWB := Lib.hid hwb
  clear hwb
  go_enter Tryd.func24, Tryd.ntmps24
  go_upto_region 1 with fail
  rw [HWB.out]
  clear HWB
  go_wp2_with fail
  refine (HC.out _ (mx_below HB0.out HM.out)).mono ?_
  rintro e w1 ⟨rfl, hb1⟩
  have HB1 := Lib.hid (below_then HB0.out hb1)
  have HQ1 := Lib.hid (Blk.kept hb1 HQ0.out)
  clear hb1
  go_wp2_with fail
  refine (HI.out _).mono ?_
  rintro e w2 ⟨rfl, rfl⟩
  go_wp2_with fail
  refine (H1.out _ (tb_below HB1.out HT.out) (errs_below HB1.out HE.out)).mono ?_
  rintro e w3 ⟨rfl, hb3⟩
  have HB3 := Lib.hid (below_then HB1.out hb3)
  have HQ3 := Lib.hid (Blk.kept hb3 HQ1.out)
  clear hb3
  go_wp2_with fail
  refine (H2.out _ (tb_below HB3.out HT.out) (errs_below HB3.out HE.out)).mono ?_
  rintro e w4 ⟨rfl, hb4⟩
  have HB4 := Lib.hid (below_then HB3.out hb4)
  have HQ4 := Lib.hid (Blk.kept hb4 HQ3.out)
  clear hb4
  have q0 := HQ4.out.cell 0 _ rfl
  have f0 := HQ4.out.free 0
  have q1 := HQ4.out.cell 1 _ rfl
  have f1 := HQ4.out.free 1
  have q2 := HQ4.out.cell 2 _ rfl
  have f2 := HQ4.out.free 2
  go_wp2_with fail
  have hZ := Lib.hid (((HQ4.out.set 0 (.int .i64 (1 + q))).set 1 (.int .i64 i)).set 2 (.int .i64 p))
  have hX := Lib.hid (below_set (below_set (below_set HB4.out (g := w.heap.size) (j := 0) (Nat.le_refl _) (.int .i64 (1 + q))) (g := w.heap.size) (j := 1) (Nat.le_refl _) (.int .i64 i)) (g := w.heap.size) (j := 2) (Nat.le_refl _) (.int .i64 p))
  clear q0 f0 q1 f1 q2 f2
  revert hZ hX
  generalize (World.setCell (World.setCell (World.setCell _ _ _) _ _) _ _) = wz
  intro hZ hX
  have z0 := hZ.out.cell 0 _ rfl
  have z1 := hZ.out.cell 1 _ rfl
  have z2 := hZ.out.cell 2 _ rfl
  exact bodyPost_ret (v := .tuple #[.agg #[.int .i64 (1 + q), .int .i64 i, .int .i64 p], .bool false]) (by simp [results, Tryd.results24, go_sem, z0, z1, z2]) rfl ⟨(1 + q), i, p, false, HP.out, rfl, hX.out⟩
set_option maxRecDepth 100000 in
set_option maxHeartbeats 1600000 in
theorem parseSlot_good (s : ByteArray) (hs : s.size ≤ 1048576) (w : World) (hm : MxIs w) (ht : TbIs w) (he : ErrsIs w) (hd : s ≠ ⟨#[45]⟩) (m : UInt8) (r b : List UInt8) (f : Bool) (hc : Lib.cut s.data.toList [58] = (m :: r, b, f))
    (hk : 0 ≤ mkI m ∧ mkI m ≤ 2) (i p : Int) (hp : Bool) (h1 : ReadIs ⟨r.toArray⟩ i true) (h2 : ReadIs ⟨b.toArray⟩ p hp) (y1 : r.length ≤ 1048575) (y2 : b.length ≤ 1048576) :
    Calls Tryd.prog 24 #[.string s] w (PwE s w) := by
  have HP : Hid (PwIs s ⟨1 + mkI m, i, p⟩ hp) := Lib.hid (by
    have h := pw_of hd hc h1 h2
    rw [decide_eq_true hk.1] at h; exact h)
  have HC := Lib.hid (fun w hm => cut58 s w hs hm (m :: r) b f hc)
  have e45 : ({ data := #[45] } : ByteArray).toList = [45] := by kernel_rfl
  have t1 : (s.toList == [45]) = false := by rw [← e45]; exact toList_ne hd
  have H1 : Hid (∀ w, TbIs w → ErrsIs w → Calls Tryd.prog 39 #[.string ⟨r.toArray⟩] w fun e w' => e = .returned (.tuple #[.int .i64 i, .bool true]) ∧ Below w.heap.size w w') := Lib.hid (fun w ht he => implParseInt ⟨r.toArray⟩ i true h1 w (by show r.toArray.size ≤ _; rw [List.size_toArray]; omega) ht he)
  have H2 : Hid (∀ w, TbIs w → ErrsIs w → Calls Tryd.prog 39 #[.string ⟨b.toArray⟩] w fun e w' => e = .returned (.tuple #[.int .i64 p, .bool hp]) ∧ Below w.heap.size w w') := Lib.hid (fun w ht he => implParseInt ⟨b.toArray⟩ p hp h2 w (by show b.toArray.size ≤ _; rw [List.size_toArray]; omega) ht he)
  obtain ⟨A, hA⟩ : ∃ A : ByteArray, ⟨(m :: r).toArray⟩ = A := ⟨_, rfl⟩
  obtain ⟨R, hR⟩ : ∃ R : ByteArray, ⟨r.toArray⟩ = R := ⟨_, rfl⟩
  obtain ⟨Y, hY⟩ : ∃ Y : ByteArray, ⟨b.toArray⟩ = Y := ⟨_, rfl⟩
  have hAz : A.size = r.length + 1 := by rw [← hA]; show (m :: r).toArray.size = _; simp
  have hA0 : A ≠ ⟨#[]⟩ := by intro h; rw [h] at hAz; have h0 : ({ data := #[] } : ByteArray).size = 0 := rfl; omega
  have e0 : ({ data := #[] } : ByteArray).toList = [] := by kernel_rfl
  have t2 : (A.toList == []) = false := by rw [← e0]; exact toList_ne hA0
  have hAm : ∀ h : 0 < A.size, (A[0]'h).toNat = m.toNat := by subst hA; intro h; rfl
  have hAr : A.extract 1 A.size = R := by
    rw [← hR]
    apply ByteArray.ext
    rw [← Array.toList_inj, ByteArray.data_extract, ← hA]
    simp [List.extract_eq_take_drop, ByteArray.size]
  obtain ⟨mz, hmz⟩ : ∃ mz : Int, (m.toNat : Int) = mz := ⟨_, rfl⟩
  have hix : ∀ wx, (Instr.index 9 (.string A) (.int .i64 0)).run Tryd.prog wx = .ok (.int .u8 mz) wx := by
    intro wx
    rw [run_index_string (P := Tryd.prog) (w := wx) 9 A .i64 0 Tryd.underlying9, dif_pos ⟨by omega, by omega⟩, ← hmz]
    exact congrArg (fun n : Nat => Result.ok (Value.int .u8 n) wx) (hAm (by omega))
  have hsl : ∀ wx, (Instr.slice 9 (.string A) (some (.int .i64 1)) none none).run Tryd.prog wx = .ok (.string R) wx := by
    intro wx
    rw [run_slice_string_from_if (P := Tryd.prog) (w := wx) 9 A .i64 1 Tryd.underlying9, if_pos ⟨by omega, by omega⟩]
    show Result.ok (Value.string (A.extract 1 A.size)) wx = _
    rw [hAr]
  rw [hA, hY] at HC
  rw [hR] at H1
  rw [hY] at H2
  obtain ⟨q, hq⟩ : ∃ q, mkI m = q := ⟨_, rfl⟩
  rw [hq] at HP hk
  have HI : Hid (∀ w, Calls Tryd.prog 38 #[.string { data := #[112, 97, 98] }, .int .u8 mz] w fun e w' => e = .returned (.int .i64 q) ∧ w' = w) := Lib.hid (by
    intro w
    refine (Tryd.strings_IndexByte { data := #[112, 97, 98] } mz w).mono ?_
    rintro e w' ⟨rfl, rfl⟩
    refine ⟨?_, rfl⟩
    rw [← hq, ← hmz]
    show Ending.returned (.int .i64 (Lib.indexByte [112, 97, 98] (m.toNat : Int).toNat.toUInt8)) = _
    rw [Int.toNat_natCast]
    have e1 : m.toNat.toUInt8 = m := by simp
    rw [e1]
    rfl)
  have HM := Lib.hid hm
  have HT := Lib.hid ht
  have HE := Lib.hid he
  clear hm ht he hd hc h1 h2 y1 y2 hA hR hY hAz hA0 hAm hAr hq e45 e0 hmz hs
  obtain ⟨hk0, hk1⟩ := hk
  have hw1 : IntKind.i64.wrap (1 + q) = 1 + q := IntWalk.i64_in _ (by omega)
  obtain ⟨wb, hwb⟩ : ∃ wb, w.alloc (.cells #[.int .i64 0, .int .i64 0, .int .i64 0] 37) = wb := ⟨_, rfl⟩
  have HQ0 : Hid (Blk wb w.heap.size 37 #[.int .i64 0, .int .i64 0, .int .i64 0]) := Lib.hid (by rw [← hwb]; exact Blk.new _ _ _)
  have HB0 : Hid (Below w.heap.size w wb) := Lib.hid (by rw [← hwb]; exact below_more (Below.refl _ _) _)
  have HWB := Lib.hid hwb
  clear hwb
  go_enter Tryd.func24, Tryd.ntmps24
  go_upto_region 1 with fail
  rw [HWB.out]
  clear HWB
  go_wp2_with fail
  refine (HC.out _ (mx_below HB0.out HM.out)).mono ?_
  rintro e w1 ⟨rfl, hb1⟩
  have HB1 := Lib.hid (below_then HB0.out hb1)
  have HQ1 := Lib.hid (Blk.kept hb1 HQ0.out)
  clear hb1
  go_wp2_with fail
  refine (HI.out _).mono ?_
  rintro e w2 ⟨rfl, rfl⟩
  go_wp2_with fail
  refine (H1.out _ (tb_below HB1.out HT.out) (errs_below HB1.out HE.out)).mono ?_
  rintro e w3 ⟨rfl, hb3⟩
  have HB3 := Lib.hid (below_then HB1.out hb3)
  have HQ3 := Lib.hid (Blk.kept hb3 HQ1.out)
  clear hb3
  go_wp2_with fail
  refine (H2.out _ (tb_below HB3.out HT.out) (errs_below HB3.out HE.out)).mono ?_
  rintro e w4 ⟨rfl, hb4⟩
  have HB4 := Lib.hid (below_then HB3.out hb4)
  have HQ4 := Lib.hid (Blk.kept hb4 HQ3.out)
  clear hb4
  have q0 := HQ4.out.cell 0 _ rfl
  have f0 := HQ4.out.free 0
  have q1 := HQ4.out.cell 1 _ rfl
  have f1 := HQ4.out.free 1
  have q2 := HQ4.out.cell 2 _ rfl
  have f2 := HQ4.out.free 2
  go_wp2_with fail
  have hZ := Lib.hid (((HQ4.out.set 0 (.int .i64 (1 + q))).set 1 (.int .i64 i)).set 2 (.int .i64 p))
  have hX := Lib.hid (below_set (below_set (below_set HB4.out (g := w.heap.size) (j := 0) (Nat.le_refl _) (.int .i64 (1 + q))) (g := w.heap.size) (j := 1) (Nat.le_refl _) (.int .i64 i)) (g := w.heap.size) (j := 2) (Nat.le_refl _) (.int .i64 p))
  clear q0 f0 q1 f1 q2 f2
  revert hZ hX
  generalize (World.setCell (World.setCell (World.setCell _ _ _) _ _) _ _) = wz
  intro hZ hX
  have z0 := hZ.out.cell 0 _ rfl
  have z1 := hZ.out.cell 1 _ rfl
  have z2 := hZ.out.cell 2 _ rfl
  exact bodyPost_ret (v := .tuple #[.agg #[.int .i64 (1 + q), .int .i64 i, .int .i64 p], .bool hp]) (by simp [results, Tryd.results24, go_sem, z0, z1, z2]) rfl ⟨(1 + q), i, p, hp, HP.out, rfl, hX.out⟩
theorem parseSlot_any (s : ByteArray) (hs : s.size ≤ 1000000) (w : World) (hm : MxIs w) (ht : TbIs w) (he : ErrsIs w) :
    Calls Tryd.prog 24 #[.string s] w (PwE s w) := by
  by_cases hd : s = ⟨#[45]⟩
  · subst hd; exact parseSlot_dash w
  have hlen : s.data.toList.length = s.size := Array.length_toList
  have key : ∀ a b f, Lib.cut s.data.toList [58] = (a, b, f) → a.length ≤ s.size ∧ b.length ≤ s.size := by
    intro a b f hc
    rcases cut_of 58 s.data.toList with ⟨_, h⟩ | ⟨a', b', h1, _, h⟩
    · rw [h] at hc
      have e1 := congrArg Prod.fst hc
      have e2 := congrArg (fun t => t.2.1) hc
      simp only at e1 e2
      rw [← e1, ← e2]
      exact ⟨by omega, Nat.zero_le _⟩
    · rw [h] at hc
      have e1 := congrArg Prod.fst hc
      have e2 := congrArg (fun t => t.2.1) hc
      simp only at e1 e2
      have h3 := congrArg List.length h1
      rw [hlen, List.length_append, List.length_cons] at h3
      rw [← e1, ← e2]
      omega
  obtain ⟨⟨a, b, f⟩, hc⟩ : ∃ t, Lib.cut s.data.toList [58] = t := ⟨_, rfl⟩
  obtain ⟨z1, z2⟩ := key a b f hc
  cases a with
  | nil => exact parseSlot_none s (by omega) w hm hd b f hc
  | cons m r =>
    rw [List.length_cons] at z1
    obtain ⟨i, hi, h1⟩ := readIs_ex ⟨r.toArray⟩
    obtain ⟨p, hp, h2⟩ := readIs_ex ⟨b.toArray⟩
    rcases mkI_cases m with ⟨hk, _⟩ | ⟨hk0, hk1, _⟩
    · exact parseSlot_neg s (by omega) w hm ht he hd m r b f hc hk i p hi hp h1 h2 (by omega) (by omega)
    · cases hi
      · exact parseSlot_bad s (by omega) w hm ht he hd m r b f hc ⟨hk0, hk1⟩ i p hp h1 h2 (by omega) (by omega)
      · exact parseSlot_good s (by omega) w hm ht he hd m r b f hc ⟨hk0, hk1⟩ i p hp h1 h2 (by omega) (by omega)
end Go.Proofs.YtadpjkghfgnbbaaDoor.L8
