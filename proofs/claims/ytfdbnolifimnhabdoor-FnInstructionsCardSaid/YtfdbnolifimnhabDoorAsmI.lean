/- What impl.AssemblyText answers. -/
import Derived.Test.YtfdbnolifimnhabDoorInsI
import Derived.Test.YtfdbnolifimnhabDoorNum
import Derived.Test.YtfdbnolifimnhabDoorShelf
namespace Go.Proofs.YtfdbnolifimnhabDoor.L3
open Go Go.RowKit Go.Sort Go.Proofs.YtfdbnolifimnhabDoor.Mem Go.Proofs.YtfdbnolifimnhabDoor.Own Go.Proofs.YtfdbnolifimnhabDoor.L1
def sp : ByteArray := ⟨#[32]⟩
def spr : ByteArray := ⟨#[32, 114]⟩
/-- the text of an instruction -/
def asmOf (x : Ins) : ByteArray :=
  let s := opName x.op.toNat
  let s := if 1 < cntA x.op then s ++ (spr ++ NumB x.a) else s
  let s := if 1 < cntB x.op then s ++ (spr ++ NumB x.b) else s
  if 0 < mostN x.op then s ++ (sp ++ NumB x.n) else s
theorem name_size (k : Nat) : (opName k).size ≤ 8 := by
  unfold opName
  split <;> decide
theorem num_size (n : Int) (h0 : 0 ≤ n) (h1 : n ≤ 65535) : (NumB n).size ≤ 20 := by
  have h2 := Lib.nDigits_le20 n.toNat (by omega)
  have h3 : (NumB n).size = Lib.nDigits n.toNat := by
    unfold NumB
    rw [Lib.itoa, if_neg (by omega), ← Lib.decDigits_length]
    simp [ByteArray.size]
  omega
theorem cat_size (a b : ByteArray) : (a ++ b).size = a.size + b.size := ByteArray.size_append
theorem below_gr (w w1 : World) (hw : Below w.heap.size w w1) (k : Nat) (os : Array Obj) : Below w.heap.size w (Go.Sort.grow (w1.drewN k) os) :=
  ⟨hw.os, hw.tape, hw.output, by have := hw.size; simp [Go.Sort.grow, World.drewN]; omega, fun j hj => by
    have h := hw.block j hj
    have h2 : j < w1.heap.size := Nat.lt_of_lt_of_le hj hw.size
    simp [Go.Sort.grow, World.drewN, Array.getElem?_append, h2]
    rw [← Array.getElem?_eq_getElem h2]
    exact h⟩
/-- one operation each -/
theorem ok_bnd {x : Ins} (h : Ok x) : (0 ≤ x.a ∧ x.a ≤ 3) ∧ (0 ≤ x.b ∧ x.b ≤ 3) ∧ (0 ≤ x.n ∧ x.n ≤ 65535) := by
  have h2 := h.2.1
  have h3 := h.2.2.1
  have h4 := h.2.2.2
  have h5 := cntA_le x.op
  have h6 := cntB_le x.op
  have h7 := mostN_le x.op
  omega
set_option maxRecDepth 100000 in
set_option maxHeartbeats 1600000 in
theorem implAsm_0 (xa xb xn : Int) (w : World) (hok : Ok ⟨0, xa, xb, xn⟩) (ho : OpsIs w) (ht : Lib.TabIs Tryd.prog w "internal/strconv.uint64pow10" .u64 Lib.pow10Tab) :
    Calls Tryd.prog 14 #[.agg #[.int .i64 0, .int .i64 xa, .int .i64 xb, .int .i64 xn]] w fun e w' => e = .returned (.tuple #[.string (asmOf ⟨0, xa, xb, xn⟩), .bool true]) ∧ Below w.heap.size w w' := by
  have hbd := ok_bnd hok
  simp only at hbd
  obtain ⟨ha, hb, hn⟩ := hbd
  obtain ⟨s0, hs0⟩ : ∃ s : ByteArray, s = ⟨#[104, 97, 108, 116]⟩ := ⟨_, rfl⟩
  have z0 : s0.size ≤ 8 := by rw [hs0]; decide
  have hasm : asmOf ⟨0, xa, xb, xn⟩ = s0 := by
    unfold asmOf cntA cntB mostN opName
    simp only [sp, spr]
    simp [hs0]
  have HASM := Lib.hid hasm
  clear hasm 
  have c0 : w.cell? ⟨0, 0, none⟩ = some (.string s0) := ho 0 (by decide) 0 _ (by simp [opRow, cntA, cntB, mostN, opName, hs0])
  have c1 : w.cell? ⟨0, 1, none⟩ = some (.int .i64 1) := ho 0 (by decide) 1 _ (by simp [opRow, cntA, cntB, mostN, opName])
  have c2 : w.cell? ⟨0, 2, none⟩ = some (.int .i64 1) := ho 0 (by decide) 2 _ (by simp [opRow, cntA, cntB, mostN, opName])
  have c3 : w.cell? ⟨0, 3, none⟩ = some (.int .i64 1) := ho 0 (by decide) 3 _ (by simp [opRow, cntA, cntB, mostN, opName])
  have HO := Lib.hid ho
  have HT := Lib.hid ht
  have hG := ho.lt
  clear hs0 ho ht
  go_enter Tryd.func14, Tryd.ntmps14
  go_wp2_with fail
  refine (implIs_any ⟨0, xa, xb, xn⟩ _ (ops_below (below_more (Below.refl _ _) _) HO.out) true (decide_eq_true hok)).mono ?_
  rintro e w1 ⟨rfl, hb1⟩
  have HX := Lib.hid (Blk.kept hb1 (Blk.new _ _ _))
  have HW := Lib.hid (below_then (below_more (Below.refl _ _) _) hb1)
  replace c0 := (HW.out.cell (p := ⟨0, 0, none⟩) hG).trans c0
  replace c1 := (HW.out.cell (p := ⟨0, 1, none⟩) hG).trans c1
  replace c2 := (HW.out.cell (p := ⟨0, 2, none⟩) hG).trans c2
  replace c3 := (HW.out.cell (p := ⟨0, 3, none⟩) hG).trans c3
  have hxl := HX.out.lt
  have hgl : 0 < w1.heap.size := Nat.lt_of_lt_of_le hG HW.out.size
  clear hb1
  have k0 := HX.out.cell 0 _ rfl
  have k1 := HX.out.cell 1 _ rfl
  have k2 := HX.out.cell 2 _ rfl
  have k3 := HX.out.cell 3 _ rfl
  go_wp2_with fail
  go_ret2
  exact ⟨by rw [HASM.out]; rfl, below_then HW.out (below_more (Below.refl _ _) _)⟩
set_option maxRecDepth 100000 in
set_option maxHeartbeats 1600000 in
theorem implAsm_1 (xa xb xn : Int) (w : World) (hok : Ok ⟨1, xa, xb, xn⟩) (ho : OpsIs w) (ht : Lib.TabIs Tryd.prog w "internal/strconv.uint64pow10" .u64 Lib.pow10Tab) :
    Calls Tryd.prog 14 #[.agg #[.int .i64 1, .int .i64 xa, .int .i64 xb, .int .i64 xn]] w fun e w' => e = .returned (.tuple #[.string (asmOf ⟨1, xa, xb, xn⟩), .bool true]) ∧ Below w.heap.size w w' := by
  have hbd := ok_bnd hok
  simp only at hbd
  obtain ⟨ha, hb, hn⟩ := hbd
  obtain ⟨s0, hs0⟩ : ∃ s : ByteArray, s = ⟨#[115, 101, 116]⟩ := ⟨_, rfl⟩
  have z0 : s0.size ≤ 8 := by rw [hs0]; decide
  obtain ⟨n0, hn0⟩ : ∃ n, NumB xa = n := ⟨_, rfl⟩
  have y0 : n0.size ≤ 20 := by rw [← hn0]; exact num_size xa (by omega) (by omega)
  obtain ⟨m0, hm0⟩ : ∃ m, (⟨#[32, 114]⟩ : ByteArray) ++ n0 = m := ⟨_, rfl⟩
  have x0 : m0.size ≤ 22 := by rw [← hm0, cat_size]; have : (⟨#[32, 114]⟩ : ByteArray).size ≤ 2 := (by decide); omega
  obtain ⟨s1, hs1⟩ : ∃ s, s0 ++ m0 = s := ⟨_, rfl⟩
  have z1 : s1.size ≤ 30 := by rw [← hs1, cat_size]; omega
  have add0a := fun wx => run_string_add_sum (P := Tryd.prog) (w := wx) (⟨#[32, 114]⟩ : ByteArray) n0 (by have : (⟨#[32, 114]⟩ : ByteArray).size ≤ 2 := (by decide); omega)
  have add0b := fun wx => run_string_add_sum (P := Tryd.prog) (w := wx) s0 m0 (by omega)
  rw [hm0] at add0a
  rw [hs1] at add0b
  have I0 := Lib.hid fun (wx : World) (h : Lib.TabIs Tryd.prog wx "internal/strconv.uint64pow10" .u64 Lib.pow10Tab) => Tryd.strconv_Itoa xa (by omega) (by omega) wx h
  obtain ⟨n1, hn1⟩ : ∃ n, NumB xn = n := ⟨_, rfl⟩
  have y1 : n1.size ≤ 20 := by rw [← hn1]; exact num_size xn (by omega) (by omega)
  obtain ⟨m1, hm1⟩ : ∃ m, (⟨#[32]⟩ : ByteArray) ++ n1 = m := ⟨_, rfl⟩
  have x1 : m1.size ≤ 22 := by rw [← hm1, cat_size]; have : (⟨#[32]⟩ : ByteArray).size ≤ 2 := (by decide); omega
  obtain ⟨s2, hs2⟩ : ∃ s, s1 ++ m1 = s := ⟨_, rfl⟩
  have z2 : s2.size ≤ 52 := by rw [← hs2, cat_size]; omega
  have add1a := fun wx => run_string_add_sum (P := Tryd.prog) (w := wx) (⟨#[32]⟩ : ByteArray) n1 (by have : (⟨#[32]⟩ : ByteArray).size ≤ 2 := (by decide); omega)
  have add1b := fun wx => run_string_add_sum (P := Tryd.prog) (w := wx) s1 m1 (by omega)
  rw [hm1] at add1a
  rw [hs2] at add1b
  have I1 := Lib.hid fun (wx : World) (h : Lib.TabIs Tryd.prog wx "internal/strconv.uint64pow10" .u64 Lib.pow10Tab) => Tryd.strconv_Itoa xn (by omega) (by omega) wx h
  have hasm : asmOf ⟨1, xa, xb, xn⟩ = s2 := by
    unfold asmOf cntA cntB mostN opName
    simp only [sp, spr]
    simp [hs0, hn0, ← hs1, ← hm0, hn1, ← hs2, ← hm1]
  have HASM := Lib.hid hasm
  have HN0 := Lib.hid hn0
  have HN1 := Lib.hid hn1
  clear hasm hn0 hm0 hs1 hn1 hm1 hs2
  have c0 : w.cell? ⟨0, 4, none⟩ = some (.string s0) := ho 1 (by decide) 0 _ (by simp [opRow, cntA, cntB, mostN, opName, hs0])
  have c1 : w.cell? ⟨0, 5, none⟩ = some (.int .i64 4) := ho 1 (by decide) 1 _ (by simp [opRow, cntA, cntB, mostN, opName])
  have c2 : w.cell? ⟨0, 6, none⟩ = some (.int .i64 1) := ho 1 (by decide) 2 _ (by simp [opRow, cntA, cntB, mostN, opName])
  have c3 : w.cell? ⟨0, 7, none⟩ = some (.int .i64 65536) := ho 1 (by decide) 3 _ (by simp [opRow, cntA, cntB, mostN, opName])
  have HO := Lib.hid ho
  have HT := Lib.hid ht
  have hG := ho.lt
  clear hs0 ho ht
  go_enter Tryd.func14, Tryd.ntmps14
  go_wp2_with fail
  refine (implIs_any ⟨1, xa, xb, xn⟩ _ (ops_below (below_more (Below.refl _ _) _) HO.out) true (decide_eq_true hok)).mono ?_
  rintro e w1 ⟨rfl, hb1⟩
  have HX := Lib.hid (Blk.kept hb1 (Blk.new _ _ _))
  have HW := Lib.hid (below_then (below_more (Below.refl _ _) _) hb1)
  replace c0 := (HW.out.cell (p := ⟨0, 4, none⟩) hG).trans c0
  replace c1 := (HW.out.cell (p := ⟨0, 5, none⟩) hG).trans c1
  replace c2 := (HW.out.cell (p := ⟨0, 6, none⟩) hG).trans c2
  replace c3 := (HW.out.cell (p := ⟨0, 7, none⟩) hG).trans c3
  have hxl := HX.out.lt
  have hgl : 0 < w1.heap.size := Nat.lt_of_lt_of_le hG HW.out.size
  clear hb1
  have k0 := HX.out.cell 0 _ rfl
  have k1 := HX.out.cell 1 _ rfl
  have k2 := HX.out.cell 2 _ rfl
  have k3 := HX.out.cell 3 _ rfl
  go_wp2_with fail
  refine (I0.out _ (Fr.tabIs_below (below_more HW.out _) HT.out)).mono ?_
  rintro e w2 ⟨rfl, kk, os, hw⟩
  have hbb : Below (w1.alloc (.cells #[.string s0, .int .i64 4, .int .i64 1, .int .i64 65536] 62)).heap.size (w1.alloc (.cells #[.string s0, .int .i64 4, .int .i64 1, .int .i64 65536] 62)) w2 := by rw [hw]; exact below_gr _ _ (Below.refl _ _) _ _
  have HR := Lib.hid (Blk.kept hbb (Blk.new w1 #[.string s0, .int .i64 4, .int .i64 1, .int .i64 65536] 62))
  replace HX := Lib.hid (Blk.kept hbb (Blk.alloc HX.out (.cells #[.string s0, .int .i64 4, .int .i64 1, .int .i64 65536] 62)))
  replace HW := Lib.hid (below_then (below_more HW.out _) hbb)
  clear hw hbb k0 k1 k2 k3 c0 c1 c2 c3
  rw [show (⟨(Lib.itoa xa).toArray⟩ : ByteArray) = n0 from HN0.out]
  have k0 := HX.out.cell 0 _ rfl
  have d0 := HR.out.cell 0 _ rfl
  have k1 := HX.out.cell 1 _ rfl
  have d1 := HR.out.cell 1 _ rfl
  have k2 := HX.out.cell 2 _ rfl
  have d2 := HR.out.cell 2 _ rfl
  have k3 := HX.out.cell 3 _ rfl
  have d3 := HR.out.cell 3 _ rfl
  go_wp2_with fail
  refine (I1.out _ (Fr.tabIs_below HW.out HT.out)).mono ?_
  rintro e w3 ⟨rfl, kk, os, hw⟩
  have hbb : Below w2.heap.size w2 w3 := by rw [hw]; exact below_gr _ _ (Below.refl _ _) _ _
  replace HR := Lib.hid (Blk.kept hbb HR.out)
  replace HX := Lib.hid (Blk.kept hbb HX.out)
  replace HW := Lib.hid (below_then HW.out hbb)
  clear hw hbb k0 k1 k2 k3 d0 d1 d2 d3
  rw [show (⟨(Lib.itoa xn).toArray⟩ : ByteArray) = n1 from HN1.out]
  have k0 := HX.out.cell 0 _ rfl
  have d0 := HR.out.cell 0 _ rfl
  have k1 := HX.out.cell 1 _ rfl
  have d1 := HR.out.cell 1 _ rfl
  have k2 := HX.out.cell 2 _ rfl
  have d2 := HR.out.cell 2 _ rfl
  have k3 := HX.out.cell 3 _ rfl
  have d3 := HR.out.cell 3 _ rfl
  go_wp2_with fail
  go_ret2
  exact ⟨by rw [HASM.out]; rfl, HW.out⟩
set_option maxRecDepth 100000 in
set_option maxHeartbeats 1600000 in
theorem implAsm_2 (xa xb xn : Int) (w : World) (hok : Ok ⟨2, xa, xb, xn⟩) (ho : OpsIs w) (ht : Lib.TabIs Tryd.prog w "internal/strconv.uint64pow10" .u64 Lib.pow10Tab) :
    Calls Tryd.prog 14 #[.agg #[.int .i64 2, .int .i64 xa, .int .i64 xb, .int .i64 xn]] w fun e w' => e = .returned (.tuple #[.string (asmOf ⟨2, xa, xb, xn⟩), .bool true]) ∧ Below w.heap.size w w' := by
  have hbd := ok_bnd hok
  simp only at hbd
  obtain ⟨ha, hb, hn⟩ := hbd
  obtain ⟨s0, hs0⟩ : ∃ s : ByteArray, s = ⟨#[109, 111, 118, 101]⟩ := ⟨_, rfl⟩
  have z0 : s0.size ≤ 8 := by rw [hs0]; decide
  obtain ⟨n0, hn0⟩ : ∃ n, NumB xa = n := ⟨_, rfl⟩
  have y0 : n0.size ≤ 20 := by rw [← hn0]; exact num_size xa (by omega) (by omega)
  obtain ⟨m0, hm0⟩ : ∃ m, (⟨#[32, 114]⟩ : ByteArray) ++ n0 = m := ⟨_, rfl⟩
  have x0 : m0.size ≤ 22 := by rw [← hm0, cat_size]; have : (⟨#[32, 114]⟩ : ByteArray).size ≤ 2 := (by decide); omega
  obtain ⟨s1, hs1⟩ : ∃ s, s0 ++ m0 = s := ⟨_, rfl⟩
  have z1 : s1.size ≤ 30 := by rw [← hs1, cat_size]; omega
  have add0a := fun wx => run_string_add_sum (P := Tryd.prog) (w := wx) (⟨#[32, 114]⟩ : ByteArray) n0 (by have : (⟨#[32, 114]⟩ : ByteArray).size ≤ 2 := (by decide); omega)
  have add0b := fun wx => run_string_add_sum (P := Tryd.prog) (w := wx) s0 m0 (by omega)
  rw [hm0] at add0a
  rw [hs1] at add0b
  have I0 := Lib.hid fun (wx : World) (h : Lib.TabIs Tryd.prog wx "internal/strconv.uint64pow10" .u64 Lib.pow10Tab) => Tryd.strconv_Itoa xa (by omega) (by omega) wx h
  obtain ⟨n1, hn1⟩ : ∃ n, NumB xb = n := ⟨_, rfl⟩
  have y1 : n1.size ≤ 20 := by rw [← hn1]; exact num_size xb (by omega) (by omega)
  obtain ⟨m1, hm1⟩ : ∃ m, (⟨#[32, 114]⟩ : ByteArray) ++ n1 = m := ⟨_, rfl⟩
  have x1 : m1.size ≤ 22 := by rw [← hm1, cat_size]; have : (⟨#[32, 114]⟩ : ByteArray).size ≤ 2 := (by decide); omega
  obtain ⟨s2, hs2⟩ : ∃ s, s1 ++ m1 = s := ⟨_, rfl⟩
  have z2 : s2.size ≤ 52 := by rw [← hs2, cat_size]; omega
  have add1a := fun wx => run_string_add_sum (P := Tryd.prog) (w := wx) (⟨#[32, 114]⟩ : ByteArray) n1 (by have : (⟨#[32, 114]⟩ : ByteArray).size ≤ 2 := (by decide); omega)
  have add1b := fun wx => run_string_add_sum (P := Tryd.prog) (w := wx) s1 m1 (by omega)
  rw [hm1] at add1a
  rw [hs2] at add1b
  have I1 := Lib.hid fun (wx : World) (h : Lib.TabIs Tryd.prog wx "internal/strconv.uint64pow10" .u64 Lib.pow10Tab) => Tryd.strconv_Itoa xb (by omega) (by omega) wx h
  have hasm : asmOf ⟨2, xa, xb, xn⟩ = s2 := by
    unfold asmOf cntA cntB mostN opName
    simp only [sp, spr]
    simp [hs0, hn0, ← hs1, ← hm0, hn1, ← hs2, ← hm1]
  have HASM := Lib.hid hasm
  have HN0 := Lib.hid hn0
  have HN1 := Lib.hid hn1
  clear hasm hn0 hm0 hs1 hn1 hm1 hs2
  have c0 : w.cell? ⟨0, 8, none⟩ = some (.string s0) := ho 2 (by decide) 0 _ (by simp [opRow, cntA, cntB, mostN, opName, hs0])
  have c1 : w.cell? ⟨0, 9, none⟩ = some (.int .i64 4) := ho 2 (by decide) 1 _ (by simp [opRow, cntA, cntB, mostN, opName])
  have c2 : w.cell? ⟨0, 10, none⟩ = some (.int .i64 4) := ho 2 (by decide) 2 _ (by simp [opRow, cntA, cntB, mostN, opName])
  have c3 : w.cell? ⟨0, 11, none⟩ = some (.int .i64 1) := ho 2 (by decide) 3 _ (by simp [opRow, cntA, cntB, mostN, opName])
  have HO := Lib.hid ho
  have HT := Lib.hid ht
  have hG := ho.lt
  clear hs0 ho ht
  go_enter Tryd.func14, Tryd.ntmps14
  go_wp2_with fail
  refine (implIs_any ⟨2, xa, xb, xn⟩ _ (ops_below (below_more (Below.refl _ _) _) HO.out) true (decide_eq_true hok)).mono ?_
  rintro e w1 ⟨rfl, hb1⟩
  have HX := Lib.hid (Blk.kept hb1 (Blk.new _ _ _))
  have HW := Lib.hid (below_then (below_more (Below.refl _ _) _) hb1)
  replace c0 := (HW.out.cell (p := ⟨0, 8, none⟩) hG).trans c0
  replace c1 := (HW.out.cell (p := ⟨0, 9, none⟩) hG).trans c1
  replace c2 := (HW.out.cell (p := ⟨0, 10, none⟩) hG).trans c2
  replace c3 := (HW.out.cell (p := ⟨0, 11, none⟩) hG).trans c3
  have hxl := HX.out.lt
  have hgl : 0 < w1.heap.size := Nat.lt_of_lt_of_le hG HW.out.size
  clear hb1
  have k0 := HX.out.cell 0 _ rfl
  have k1 := HX.out.cell 1 _ rfl
  have k2 := HX.out.cell 2 _ rfl
  have k3 := HX.out.cell 3 _ rfl
  go_wp2_with fail
  refine (I0.out _ (Fr.tabIs_below (below_more HW.out _) HT.out)).mono ?_
  rintro e w2 ⟨rfl, kk, os, hw⟩
  have hbb : Below (w1.alloc (.cells #[.string s0, .int .i64 4, .int .i64 4, .int .i64 1] 62)).heap.size (w1.alloc (.cells #[.string s0, .int .i64 4, .int .i64 4, .int .i64 1] 62)) w2 := by rw [hw]; exact below_gr _ _ (Below.refl _ _) _ _
  have HR := Lib.hid (Blk.kept hbb (Blk.new w1 #[.string s0, .int .i64 4, .int .i64 4, .int .i64 1] 62))
  replace HX := Lib.hid (Blk.kept hbb (Blk.alloc HX.out (.cells #[.string s0, .int .i64 4, .int .i64 4, .int .i64 1] 62)))
  replace HW := Lib.hid (below_then (below_more HW.out _) hbb)
  clear hw hbb k0 k1 k2 k3 c0 c1 c2 c3
  rw [show (⟨(Lib.itoa xa).toArray⟩ : ByteArray) = n0 from HN0.out]
  have k0 := HX.out.cell 0 _ rfl
  have d0 := HR.out.cell 0 _ rfl
  have k1 := HX.out.cell 1 _ rfl
  have d1 := HR.out.cell 1 _ rfl
  have k2 := HX.out.cell 2 _ rfl
  have d2 := HR.out.cell 2 _ rfl
  have k3 := HX.out.cell 3 _ rfl
  have d3 := HR.out.cell 3 _ rfl
  go_wp2_with fail
  refine (I1.out _ (Fr.tabIs_below HW.out HT.out)).mono ?_
  rintro e w3 ⟨rfl, kk, os, hw⟩
  have hbb : Below w2.heap.size w2 w3 := by rw [hw]; exact below_gr _ _ (Below.refl _ _) _ _
  replace HR := Lib.hid (Blk.kept hbb HR.out)
  replace HX := Lib.hid (Blk.kept hbb HX.out)
  replace HW := Lib.hid (below_then HW.out hbb)
  clear hw hbb k0 k1 k2 k3 d0 d1 d2 d3
  rw [show (⟨(Lib.itoa xb).toArray⟩ : ByteArray) = n1 from HN1.out]
  have k0 := HX.out.cell 0 _ rfl
  have d0 := HR.out.cell 0 _ rfl
  have k1 := HX.out.cell 1 _ rfl
  have d1 := HR.out.cell 1 _ rfl
  have k2 := HX.out.cell 2 _ rfl
  have d2 := HR.out.cell 2 _ rfl
  have k3 := HX.out.cell 3 _ rfl
  have d3 := HR.out.cell 3 _ rfl
  go_wp2_with fail
  go_ret2
  exact ⟨by rw [HASM.out]; rfl, HW.out⟩
set_option maxRecDepth 100000 in
set_option maxHeartbeats 1600000 in
theorem implAsm_3 (xa xb xn : Int) (w : World) (hok : Ok ⟨3, xa, xb, xn⟩) (ho : OpsIs w) (ht : Lib.TabIs Tryd.prog w "internal/strconv.uint64pow10" .u64 Lib.pow10Tab) :
    Calls Tryd.prog 14 #[.agg #[.int .i64 3, .int .i64 xa, .int .i64 xb, .int .i64 xn]] w fun e w' => e = .returned (.tuple #[.string (asmOf ⟨3, xa, xb, xn⟩), .bool true]) ∧ Below w.heap.size w w' := by
  have hbd := ok_bnd hok
  simp only at hbd
  obtain ⟨ha, hb, hn⟩ := hbd
  obtain ⟨s0, hs0⟩ : ∃ s : ByteArray, s = ⟨#[97, 100, 100]⟩ := ⟨_, rfl⟩
  have z0 : s0.size ≤ 8 := by rw [hs0]; decide
  obtain ⟨n0, hn0⟩ : ∃ n, NumB xa = n := ⟨_, rfl⟩
  have y0 : n0.size ≤ 20 := by rw [← hn0]; exact num_size xa (by omega) (by omega)
  obtain ⟨m0, hm0⟩ : ∃ m, (⟨#[32, 114]⟩ : ByteArray) ++ n0 = m := ⟨_, rfl⟩
  have x0 : m0.size ≤ 22 := by rw [← hm0, cat_size]; have : (⟨#[32, 114]⟩ : ByteArray).size ≤ 2 := (by decide); omega
  obtain ⟨s1, hs1⟩ : ∃ s, s0 ++ m0 = s := ⟨_, rfl⟩
  have z1 : s1.size ≤ 30 := by rw [← hs1, cat_size]; omega
  have add0a := fun wx => run_string_add_sum (P := Tryd.prog) (w := wx) (⟨#[32, 114]⟩ : ByteArray) n0 (by have : (⟨#[32, 114]⟩ : ByteArray).size ≤ 2 := (by decide); omega)
  have add0b := fun wx => run_string_add_sum (P := Tryd.prog) (w := wx) s0 m0 (by omega)
  rw [hm0] at add0a
  rw [hs1] at add0b
  have I0 := Lib.hid fun (wx : World) (h : Lib.TabIs Tryd.prog wx "internal/strconv.uint64pow10" .u64 Lib.pow10Tab) => Tryd.strconv_Itoa xa (by omega) (by omega) wx h
  obtain ⟨n1, hn1⟩ : ∃ n, NumB xb = n := ⟨_, rfl⟩
  have y1 : n1.size ≤ 20 := by rw [← hn1]; exact num_size xb (by omega) (by omega)
  obtain ⟨m1, hm1⟩ : ∃ m, (⟨#[32, 114]⟩ : ByteArray) ++ n1 = m := ⟨_, rfl⟩
  have x1 : m1.size ≤ 22 := by rw [← hm1, cat_size]; have : (⟨#[32, 114]⟩ : ByteArray).size ≤ 2 := (by decide); omega
  obtain ⟨s2, hs2⟩ : ∃ s, s1 ++ m1 = s := ⟨_, rfl⟩
  have z2 : s2.size ≤ 52 := by rw [← hs2, cat_size]; omega
  have add1a := fun wx => run_string_add_sum (P := Tryd.prog) (w := wx) (⟨#[32, 114]⟩ : ByteArray) n1 (by have : (⟨#[32, 114]⟩ : ByteArray).size ≤ 2 := (by decide); omega)
  have add1b := fun wx => run_string_add_sum (P := Tryd.prog) (w := wx) s1 m1 (by omega)
  rw [hm1] at add1a
  rw [hs2] at add1b
  have I1 := Lib.hid fun (wx : World) (h : Lib.TabIs Tryd.prog wx "internal/strconv.uint64pow10" .u64 Lib.pow10Tab) => Tryd.strconv_Itoa xb (by omega) (by omega) wx h
  have hasm : asmOf ⟨3, xa, xb, xn⟩ = s2 := by
    unfold asmOf cntA cntB mostN opName
    simp only [sp, spr]
    simp [hs0, hn0, ← hs1, ← hm0, hn1, ← hs2, ← hm1]
  have HASM := Lib.hid hasm
  have HN0 := Lib.hid hn0
  have HN1 := Lib.hid hn1
  clear hasm hn0 hm0 hs1 hn1 hm1 hs2
  have c0 : w.cell? ⟨0, 12, none⟩ = some (.string s0) := ho 3 (by decide) 0 _ (by simp [opRow, cntA, cntB, mostN, opName, hs0])
  have c1 : w.cell? ⟨0, 13, none⟩ = some (.int .i64 4) := ho 3 (by decide) 1 _ (by simp [opRow, cntA, cntB, mostN, opName])
  have c2 : w.cell? ⟨0, 14, none⟩ = some (.int .i64 4) := ho 3 (by decide) 2 _ (by simp [opRow, cntA, cntB, mostN, opName])
  have c3 : w.cell? ⟨0, 15, none⟩ = some (.int .i64 1) := ho 3 (by decide) 3 _ (by simp [opRow, cntA, cntB, mostN, opName])
  have HO := Lib.hid ho
  have HT := Lib.hid ht
  have hG := ho.lt
  clear hs0 ho ht
  go_enter Tryd.func14, Tryd.ntmps14
  go_wp2_with fail
  refine (implIs_any ⟨3, xa, xb, xn⟩ _ (ops_below (below_more (Below.refl _ _) _) HO.out) true (decide_eq_true hok)).mono ?_
  rintro e w1 ⟨rfl, hb1⟩
  have HX := Lib.hid (Blk.kept hb1 (Blk.new _ _ _))
  have HW := Lib.hid (below_then (below_more (Below.refl _ _) _) hb1)
  replace c0 := (HW.out.cell (p := ⟨0, 12, none⟩) hG).trans c0
  replace c1 := (HW.out.cell (p := ⟨0, 13, none⟩) hG).trans c1
  replace c2 := (HW.out.cell (p := ⟨0, 14, none⟩) hG).trans c2
  replace c3 := (HW.out.cell (p := ⟨0, 15, none⟩) hG).trans c3
  have hxl := HX.out.lt
  have hgl : 0 < w1.heap.size := Nat.lt_of_lt_of_le hG HW.out.size
  clear hb1
  have k0 := HX.out.cell 0 _ rfl
  have k1 := HX.out.cell 1 _ rfl
  have k2 := HX.out.cell 2 _ rfl
  have k3 := HX.out.cell 3 _ rfl
  go_wp2_with fail
  refine (I0.out _ (Fr.tabIs_below (below_more HW.out _) HT.out)).mono ?_
  rintro e w2 ⟨rfl, kk, os, hw⟩
  have hbb : Below (w1.alloc (.cells #[.string s0, .int .i64 4, .int .i64 4, .int .i64 1] 62)).heap.size (w1.alloc (.cells #[.string s0, .int .i64 4, .int .i64 4, .int .i64 1] 62)) w2 := by rw [hw]; exact below_gr _ _ (Below.refl _ _) _ _
  have HR := Lib.hid (Blk.kept hbb (Blk.new w1 #[.string s0, .int .i64 4, .int .i64 4, .int .i64 1] 62))
  replace HX := Lib.hid (Blk.kept hbb (Blk.alloc HX.out (.cells #[.string s0, .int .i64 4, .int .i64 4, .int .i64 1] 62)))
  replace HW := Lib.hid (below_then (below_more HW.out _) hbb)
  clear hw hbb k0 k1 k2 k3 c0 c1 c2 c3
  rw [show (⟨(Lib.itoa xa).toArray⟩ : ByteArray) = n0 from HN0.out]
  have k0 := HX.out.cell 0 _ rfl
  have d0 := HR.out.cell 0 _ rfl
  have k1 := HX.out.cell 1 _ rfl
  have d1 := HR.out.cell 1 _ rfl
  have k2 := HX.out.cell 2 _ rfl
  have d2 := HR.out.cell 2 _ rfl
  have k3 := HX.out.cell 3 _ rfl
  have d3 := HR.out.cell 3 _ rfl
  go_wp2_with fail
  refine (I1.out _ (Fr.tabIs_below HW.out HT.out)).mono ?_
  rintro e w3 ⟨rfl, kk, os, hw⟩
  have hbb : Below w2.heap.size w2 w3 := by rw [hw]; exact below_gr _ _ (Below.refl _ _) _ _
  replace HR := Lib.hid (Blk.kept hbb HR.out)
  replace HX := Lib.hid (Blk.kept hbb HX.out)
  replace HW := Lib.hid (below_then HW.out hbb)
  clear hw hbb k0 k1 k2 k3 d0 d1 d2 d3
  rw [show (⟨(Lib.itoa xb).toArray⟩ : ByteArray) = n1 from HN1.out]
  have k0 := HX.out.cell 0 _ rfl
  have d0 := HR.out.cell 0 _ rfl
  have k1 := HX.out.cell 1 _ rfl
  have d1 := HR.out.cell 1 _ rfl
  have k2 := HX.out.cell 2 _ rfl
  have d2 := HR.out.cell 2 _ rfl
  have k3 := HX.out.cell 3 _ rfl
  have d3 := HR.out.cell 3 _ rfl
  go_wp2_with fail
  go_ret2
  exact ⟨by rw [HASM.out]; rfl, HW.out⟩
set_option maxRecDepth 100000 in
set_option maxHeartbeats 1600000 in
theorem implAsm_4 (xa xb xn : Int) (w : World) (hok : Ok ⟨4, xa, xb, xn⟩) (ho : OpsIs w) (ht : Lib.TabIs Tryd.prog w "internal/strconv.uint64pow10" .u64 Lib.pow10Tab) :
    Calls Tryd.prog 14 #[.agg #[.int .i64 4, .int .i64 xa, .int .i64 xb, .int .i64 xn]] w fun e w' => e = .returned (.tuple #[.string (asmOf ⟨4, xa, xb, xn⟩), .bool true]) ∧ Below w.heap.size w w' := by
  have hbd := ok_bnd hok
  simp only at hbd
  obtain ⟨ha, hb, hn⟩ := hbd
  obtain ⟨s0, hs0⟩ : ∃ s : ByteArray, s = ⟨#[115, 117, 98]⟩ := ⟨_, rfl⟩
  have z0 : s0.size ≤ 8 := by rw [hs0]; decide
  obtain ⟨n0, hn0⟩ : ∃ n, NumB xa = n := ⟨_, rfl⟩
  have y0 : n0.size ≤ 20 := by rw [← hn0]; exact num_size xa (by omega) (by omega)
  obtain ⟨m0, hm0⟩ : ∃ m, (⟨#[32, 114]⟩ : ByteArray) ++ n0 = m := ⟨_, rfl⟩
  have x0 : m0.size ≤ 22 := by rw [← hm0, cat_size]; have : (⟨#[32, 114]⟩ : ByteArray).size ≤ 2 := (by decide); omega
  obtain ⟨s1, hs1⟩ : ∃ s, s0 ++ m0 = s := ⟨_, rfl⟩
  have z1 : s1.size ≤ 30 := by rw [← hs1, cat_size]; omega
  have add0a := fun wx => run_string_add_sum (P := Tryd.prog) (w := wx) (⟨#[32, 114]⟩ : ByteArray) n0 (by have : (⟨#[32, 114]⟩ : ByteArray).size ≤ 2 := (by decide); omega)
  have add0b := fun wx => run_string_add_sum (P := Tryd.prog) (w := wx) s0 m0 (by omega)
  rw [hm0] at add0a
  rw [hs1] at add0b
  have I0 := Lib.hid fun (wx : World) (h : Lib.TabIs Tryd.prog wx "internal/strconv.uint64pow10" .u64 Lib.pow10Tab) => Tryd.strconv_Itoa xa (by omega) (by omega) wx h
  obtain ⟨n1, hn1⟩ : ∃ n, NumB xb = n := ⟨_, rfl⟩
  have y1 : n1.size ≤ 20 := by rw [← hn1]; exact num_size xb (by omega) (by omega)
  obtain ⟨m1, hm1⟩ : ∃ m, (⟨#[32, 114]⟩ : ByteArray) ++ n1 = m := ⟨_, rfl⟩
  have x1 : m1.size ≤ 22 := by rw [← hm1, cat_size]; have : (⟨#[32, 114]⟩ : ByteArray).size ≤ 2 := (by decide); omega
  obtain ⟨s2, hs2⟩ : ∃ s, s1 ++ m1 = s := ⟨_, rfl⟩
  have z2 : s2.size ≤ 52 := by rw [← hs2, cat_size]; omega
  have add1a := fun wx => run_string_add_sum (P := Tryd.prog) (w := wx) (⟨#[32, 114]⟩ : ByteArray) n1 (by have : (⟨#[32, 114]⟩ : ByteArray).size ≤ 2 := (by decide); omega)
  have add1b := fun wx => run_string_add_sum (P := Tryd.prog) (w := wx) s1 m1 (by omega)
  rw [hm1] at add1a
  rw [hs2] at add1b
  have I1 := Lib.hid fun (wx : World) (h : Lib.TabIs Tryd.prog wx "internal/strconv.uint64pow10" .u64 Lib.pow10Tab) => Tryd.strconv_Itoa xb (by omega) (by omega) wx h
  have hasm : asmOf ⟨4, xa, xb, xn⟩ = s2 := by
    unfold asmOf cntA cntB mostN opName
    simp only [sp, spr]
    simp [hs0, hn0, ← hs1, ← hm0, hn1, ← hs2, ← hm1]
  have HASM := Lib.hid hasm
  have HN0 := Lib.hid hn0
  have HN1 := Lib.hid hn1
  clear hasm hn0 hm0 hs1 hn1 hm1 hs2
  have c0 : w.cell? ⟨0, 16, none⟩ = some (.string s0) := ho 4 (by decide) 0 _ (by simp [opRow, cntA, cntB, mostN, opName, hs0])
  have c1 : w.cell? ⟨0, 17, none⟩ = some (.int .i64 4) := ho 4 (by decide) 1 _ (by simp [opRow, cntA, cntB, mostN, opName])
  have c2 : w.cell? ⟨0, 18, none⟩ = some (.int .i64 4) := ho 4 (by decide) 2 _ (by simp [opRow, cntA, cntB, mostN, opName])
  have c3 : w.cell? ⟨0, 19, none⟩ = some (.int .i64 1) := ho 4 (by decide) 3 _ (by simp [opRow, cntA, cntB, mostN, opName])
  have HO := Lib.hid ho
  have HT := Lib.hid ht
  have hG := ho.lt
  clear hs0 ho ht
  go_enter Tryd.func14, Tryd.ntmps14
  go_wp2_with fail
  refine (implIs_any ⟨4, xa, xb, xn⟩ _ (ops_below (below_more (Below.refl _ _) _) HO.out) true (decide_eq_true hok)).mono ?_
  rintro e w1 ⟨rfl, hb1⟩
  have HX := Lib.hid (Blk.kept hb1 (Blk.new _ _ _))
  have HW := Lib.hid (below_then (below_more (Below.refl _ _) _) hb1)
  replace c0 := (HW.out.cell (p := ⟨0, 16, none⟩) hG).trans c0
  replace c1 := (HW.out.cell (p := ⟨0, 17, none⟩) hG).trans c1
  replace c2 := (HW.out.cell (p := ⟨0, 18, none⟩) hG).trans c2
  replace c3 := (HW.out.cell (p := ⟨0, 19, none⟩) hG).trans c3
  have hxl := HX.out.lt
  have hgl : 0 < w1.heap.size := Nat.lt_of_lt_of_le hG HW.out.size
  clear hb1
  have k0 := HX.out.cell 0 _ rfl
  have k1 := HX.out.cell 1 _ rfl
  have k2 := HX.out.cell 2 _ rfl
  have k3 := HX.out.cell 3 _ rfl
  go_wp2_with fail
  refine (I0.out _ (Fr.tabIs_below (below_more HW.out _) HT.out)).mono ?_
  rintro e w2 ⟨rfl, kk, os, hw⟩
  have hbb : Below (w1.alloc (.cells #[.string s0, .int .i64 4, .int .i64 4, .int .i64 1] 62)).heap.size (w1.alloc (.cells #[.string s0, .int .i64 4, .int .i64 4, .int .i64 1] 62)) w2 := by rw [hw]; exact below_gr _ _ (Below.refl _ _) _ _
  have HR := Lib.hid (Blk.kept hbb (Blk.new w1 #[.string s0, .int .i64 4, .int .i64 4, .int .i64 1] 62))
  replace HX := Lib.hid (Blk.kept hbb (Blk.alloc HX.out (.cells #[.string s0, .int .i64 4, .int .i64 4, .int .i64 1] 62)))
  replace HW := Lib.hid (below_then (below_more HW.out _) hbb)
  clear hw hbb k0 k1 k2 k3 c0 c1 c2 c3
  rw [show (⟨(Lib.itoa xa).toArray⟩ : ByteArray) = n0 from HN0.out]
  have k0 := HX.out.cell 0 _ rfl
  have d0 := HR.out.cell 0 _ rfl
  have k1 := HX.out.cell 1 _ rfl
  have d1 := HR.out.cell 1 _ rfl
  have k2 := HX.out.cell 2 _ rfl
  have d2 := HR.out.cell 2 _ rfl
  have k3 := HX.out.cell 3 _ rfl
  have d3 := HR.out.cell 3 _ rfl
  go_wp2_with fail
  refine (I1.out _ (Fr.tabIs_below HW.out HT.out)).mono ?_
  rintro e w3 ⟨rfl, kk, os, hw⟩
  have hbb : Below w2.heap.size w2 w3 := by rw [hw]; exact below_gr _ _ (Below.refl _ _) _ _
  replace HR := Lib.hid (Blk.kept hbb HR.out)
  replace HX := Lib.hid (Blk.kept hbb HX.out)
  replace HW := Lib.hid (below_then HW.out hbb)
  clear hw hbb k0 k1 k2 k3 d0 d1 d2 d3
  rw [show (⟨(Lib.itoa xb).toArray⟩ : ByteArray) = n1 from HN1.out]
  have k0 := HX.out.cell 0 _ rfl
  have d0 := HR.out.cell 0 _ rfl
  have k1 := HX.out.cell 1 _ rfl
  have d1 := HR.out.cell 1 _ rfl
  have k2 := HX.out.cell 2 _ rfl
  have d2 := HR.out.cell 2 _ rfl
  have k3 := HX.out.cell 3 _ rfl
  have d3 := HR.out.cell 3 _ rfl
  go_wp2_with fail
  go_ret2
  exact ⟨by rw [HASM.out]; rfl, HW.out⟩
set_option maxRecDepth 100000 in
set_option maxHeartbeats 1600000 in
theorem implAsm_5 (xa xb xn : Int) (w : World) (hok : Ok ⟨5, xa, xb, xn⟩) (ho : OpsIs w) (ht : Lib.TabIs Tryd.prog w "internal/strconv.uint64pow10" .u64 Lib.pow10Tab) :
    Calls Tryd.prog 14 #[.agg #[.int .i64 5, .int .i64 xa, .int .i64 xb, .int .i64 xn]] w fun e w' => e = .returned (.tuple #[.string (asmOf ⟨5, xa, xb, xn⟩), .bool true]) ∧ Below w.heap.size w w' := by
  have hbd := ok_bnd hok
  simp only at hbd
  obtain ⟨ha, hb, hn⟩ := hbd
  obtain ⟨s0, hs0⟩ : ∃ s : ByteArray, s = ⟨#[97, 110, 100]⟩ := ⟨_, rfl⟩
  have z0 : s0.size ≤ 8 := by rw [hs0]; decide
  obtain ⟨n0, hn0⟩ : ∃ n, NumB xa = n := ⟨_, rfl⟩
  have y0 : n0.size ≤ 20 := by rw [← hn0]; exact num_size xa (by omega) (by omega)
  obtain ⟨m0, hm0⟩ : ∃ m, (⟨#[32, 114]⟩ : ByteArray) ++ n0 = m := ⟨_, rfl⟩
  have x0 : m0.size ≤ 22 := by rw [← hm0, cat_size]; have : (⟨#[32, 114]⟩ : ByteArray).size ≤ 2 := (by decide); omega
  obtain ⟨s1, hs1⟩ : ∃ s, s0 ++ m0 = s := ⟨_, rfl⟩
  have z1 : s1.size ≤ 30 := by rw [← hs1, cat_size]; omega
  have add0a := fun wx => run_string_add_sum (P := Tryd.prog) (w := wx) (⟨#[32, 114]⟩ : ByteArray) n0 (by have : (⟨#[32, 114]⟩ : ByteArray).size ≤ 2 := (by decide); omega)
  have add0b := fun wx => run_string_add_sum (P := Tryd.prog) (w := wx) s0 m0 (by omega)
  rw [hm0] at add0a
  rw [hs1] at add0b
  have I0 := Lib.hid fun (wx : World) (h : Lib.TabIs Tryd.prog wx "internal/strconv.uint64pow10" .u64 Lib.pow10Tab) => Tryd.strconv_Itoa xa (by omega) (by omega) wx h
  obtain ⟨n1, hn1⟩ : ∃ n, NumB xb = n := ⟨_, rfl⟩
  have y1 : n1.size ≤ 20 := by rw [← hn1]; exact num_size xb (by omega) (by omega)
  obtain ⟨m1, hm1⟩ : ∃ m, (⟨#[32, 114]⟩ : ByteArray) ++ n1 = m := ⟨_, rfl⟩
  have x1 : m1.size ≤ 22 := by rw [← hm1, cat_size]; have : (⟨#[32, 114]⟩ : ByteArray).size ≤ 2 := (by decide); omega
  obtain ⟨s2, hs2⟩ : ∃ s, s1 ++ m1 = s := ⟨_, rfl⟩
  have z2 : s2.size ≤ 52 := by rw [← hs2, cat_size]; omega
  have add1a := fun wx => run_string_add_sum (P := Tryd.prog) (w := wx) (⟨#[32, 114]⟩ : ByteArray) n1 (by have : (⟨#[32, 114]⟩ : ByteArray).size ≤ 2 := (by decide); omega)
  have add1b := fun wx => run_string_add_sum (P := Tryd.prog) (w := wx) s1 m1 (by omega)
  rw [hm1] at add1a
  rw [hs2] at add1b
  have I1 := Lib.hid fun (wx : World) (h : Lib.TabIs Tryd.prog wx "internal/strconv.uint64pow10" .u64 Lib.pow10Tab) => Tryd.strconv_Itoa xb (by omega) (by omega) wx h
  have hasm : asmOf ⟨5, xa, xb, xn⟩ = s2 := by
    unfold asmOf cntA cntB mostN opName
    simp only [sp, spr]
    simp [hs0, hn0, ← hs1, ← hm0, hn1, ← hs2, ← hm1]
  have HASM := Lib.hid hasm
  have HN0 := Lib.hid hn0
  have HN1 := Lib.hid hn1
  clear hasm hn0 hm0 hs1 hn1 hm1 hs2
  have c0 : w.cell? ⟨0, 20, none⟩ = some (.string s0) := ho 5 (by decide) 0 _ (by simp [opRow, cntA, cntB, mostN, opName, hs0])
  have c1 : w.cell? ⟨0, 21, none⟩ = some (.int .i64 4) := ho 5 (by decide) 1 _ (by simp [opRow, cntA, cntB, mostN, opName])
  have c2 : w.cell? ⟨0, 22, none⟩ = some (.int .i64 4) := ho 5 (by decide) 2 _ (by simp [opRow, cntA, cntB, mostN, opName])
  have c3 : w.cell? ⟨0, 23, none⟩ = some (.int .i64 1) := ho 5 (by decide) 3 _ (by simp [opRow, cntA, cntB, mostN, opName])
  have HO := Lib.hid ho
  have HT := Lib.hid ht
  have hG := ho.lt
  clear hs0 ho ht
  go_enter Tryd.func14, Tryd.ntmps14
  go_wp2_with fail
  refine (implIs_any ⟨5, xa, xb, xn⟩ _ (ops_below (below_more (Below.refl _ _) _) HO.out) true (decide_eq_true hok)).mono ?_
  rintro e w1 ⟨rfl, hb1⟩
  have HX := Lib.hid (Blk.kept hb1 (Blk.new _ _ _))
  have HW := Lib.hid (below_then (below_more (Below.refl _ _) _) hb1)
  replace c0 := (HW.out.cell (p := ⟨0, 20, none⟩) hG).trans c0
  replace c1 := (HW.out.cell (p := ⟨0, 21, none⟩) hG).trans c1
  replace c2 := (HW.out.cell (p := ⟨0, 22, none⟩) hG).trans c2
  replace c3 := (HW.out.cell (p := ⟨0, 23, none⟩) hG).trans c3
  have hxl := HX.out.lt
  have hgl : 0 < w1.heap.size := Nat.lt_of_lt_of_le hG HW.out.size
  clear hb1
  have k0 := HX.out.cell 0 _ rfl
  have k1 := HX.out.cell 1 _ rfl
  have k2 := HX.out.cell 2 _ rfl
  have k3 := HX.out.cell 3 _ rfl
  go_wp2_with fail
  refine (I0.out _ (Fr.tabIs_below (below_more HW.out _) HT.out)).mono ?_
  rintro e w2 ⟨rfl, kk, os, hw⟩
  have hbb : Below (w1.alloc (.cells #[.string s0, .int .i64 4, .int .i64 4, .int .i64 1] 62)).heap.size (w1.alloc (.cells #[.string s0, .int .i64 4, .int .i64 4, .int .i64 1] 62)) w2 := by rw [hw]; exact below_gr _ _ (Below.refl _ _) _ _
  have HR := Lib.hid (Blk.kept hbb (Blk.new w1 #[.string s0, .int .i64 4, .int .i64 4, .int .i64 1] 62))
  replace HX := Lib.hid (Blk.kept hbb (Blk.alloc HX.out (.cells #[.string s0, .int .i64 4, .int .i64 4, .int .i64 1] 62)))
  replace HW := Lib.hid (below_then (below_more HW.out _) hbb)
  clear hw hbb k0 k1 k2 k3 c0 c1 c2 c3
  rw [show (⟨(Lib.itoa xa).toArray⟩ : ByteArray) = n0 from HN0.out]
  have k0 := HX.out.cell 0 _ rfl
  have d0 := HR.out.cell 0 _ rfl
  have k1 := HX.out.cell 1 _ rfl
  have d1 := HR.out.cell 1 _ rfl
  have k2 := HX.out.cell 2 _ rfl
  have d2 := HR.out.cell 2 _ rfl
  have k3 := HX.out.cell 3 _ rfl
  have d3 := HR.out.cell 3 _ rfl
  go_wp2_with fail
  refine (I1.out _ (Fr.tabIs_below HW.out HT.out)).mono ?_
  rintro e w3 ⟨rfl, kk, os, hw⟩
  have hbb : Below w2.heap.size w2 w3 := by rw [hw]; exact below_gr _ _ (Below.refl _ _) _ _
  replace HR := Lib.hid (Blk.kept hbb HR.out)
  replace HX := Lib.hid (Blk.kept hbb HX.out)
  replace HW := Lib.hid (below_then HW.out hbb)
  clear hw hbb k0 k1 k2 k3 d0 d1 d2 d3
  rw [show (⟨(Lib.itoa xb).toArray⟩ : ByteArray) = n1 from HN1.out]
  have k0 := HX.out.cell 0 _ rfl
  have d0 := HR.out.cell 0 _ rfl
  have k1 := HX.out.cell 1 _ rfl
  have d1 := HR.out.cell 1 _ rfl
  have k2 := HX.out.cell 2 _ rfl
  have d2 := HR.out.cell 2 _ rfl
  have k3 := HX.out.cell 3 _ rfl
  have d3 := HR.out.cell 3 _ rfl
  go_wp2_with fail
  go_ret2
  exact ⟨by rw [HASM.out]; rfl, HW.out⟩
set_option maxRecDepth 100000 in
set_option maxHeartbeats 1600000 in
theorem implAsm_6 (xa xb xn : Int) (w : World) (hok : Ok ⟨6, xa, xb, xn⟩) (ho : OpsIs w) (ht : Lib.TabIs Tryd.prog w "internal/strconv.uint64pow10" .u64 Lib.pow10Tab) :
    Calls Tryd.prog 14 #[.agg #[.int .i64 6, .int .i64 xa, .int .i64 xb, .int .i64 xn]] w fun e w' => e = .returned (.tuple #[.string (asmOf ⟨6, xa, xb, xn⟩), .bool true]) ∧ Below w.heap.size w w' := by
  have hbd := ok_bnd hok
  simp only at hbd
  obtain ⟨ha, hb, hn⟩ := hbd
  obtain ⟨s0, hs0⟩ : ∃ s : ByteArray, s = ⟨#[115, 104, 105, 102, 116]⟩ := ⟨_, rfl⟩
  have z0 : s0.size ≤ 8 := by rw [hs0]; decide
  obtain ⟨n0, hn0⟩ : ∃ n, NumB xa = n := ⟨_, rfl⟩
  have y0 : n0.size ≤ 20 := by rw [← hn0]; exact num_size xa (by omega) (by omega)
  obtain ⟨m0, hm0⟩ : ∃ m, (⟨#[32, 114]⟩ : ByteArray) ++ n0 = m := ⟨_, rfl⟩
  have x0 : m0.size ≤ 22 := by rw [← hm0, cat_size]; have : (⟨#[32, 114]⟩ : ByteArray).size ≤ 2 := (by decide); omega
  obtain ⟨s1, hs1⟩ : ∃ s, s0 ++ m0 = s := ⟨_, rfl⟩
  have z1 : s1.size ≤ 30 := by rw [← hs1, cat_size]; omega
  have add0a := fun wx => run_string_add_sum (P := Tryd.prog) (w := wx) (⟨#[32, 114]⟩ : ByteArray) n0 (by have : (⟨#[32, 114]⟩ : ByteArray).size ≤ 2 := (by decide); omega)
  have add0b := fun wx => run_string_add_sum (P := Tryd.prog) (w := wx) s0 m0 (by omega)
  rw [hm0] at add0a
  rw [hs1] at add0b
  have I0 := Lib.hid fun (wx : World) (h : Lib.TabIs Tryd.prog wx "internal/strconv.uint64pow10" .u64 Lib.pow10Tab) => Tryd.strconv_Itoa xa (by omega) (by omega) wx h
  obtain ⟨n1, hn1⟩ : ∃ n, NumB xn = n := ⟨_, rfl⟩
  have y1 : n1.size ≤ 20 := by rw [← hn1]; exact num_size xn (by omega) (by omega)
  obtain ⟨m1, hm1⟩ : ∃ m, (⟨#[32]⟩ : ByteArray) ++ n1 = m := ⟨_, rfl⟩
  have x1 : m1.size ≤ 22 := by rw [← hm1, cat_size]; have : (⟨#[32]⟩ : ByteArray).size ≤ 2 := (by decide); omega
  obtain ⟨s2, hs2⟩ : ∃ s, s1 ++ m1 = s := ⟨_, rfl⟩
  have z2 : s2.size ≤ 52 := by rw [← hs2, cat_size]; omega
  have add1a := fun wx => run_string_add_sum (P := Tryd.prog) (w := wx) (⟨#[32]⟩ : ByteArray) n1 (by have : (⟨#[32]⟩ : ByteArray).size ≤ 2 := (by decide); omega)
  have add1b := fun wx => run_string_add_sum (P := Tryd.prog) (w := wx) s1 m1 (by omega)
  rw [hm1] at add1a
  rw [hs2] at add1b
  have I1 := Lib.hid fun (wx : World) (h : Lib.TabIs Tryd.prog wx "internal/strconv.uint64pow10" .u64 Lib.pow10Tab) => Tryd.strconv_Itoa xn (by omega) (by omega) wx h
  have hasm : asmOf ⟨6, xa, xb, xn⟩ = s2 := by
    unfold asmOf cntA cntB mostN opName
    simp only [sp, spr]
    simp [hs0, hn0, ← hs1, ← hm0, hn1, ← hs2, ← hm1]
  have HASM := Lib.hid hasm
  have HN0 := Lib.hid hn0
  have HN1 := Lib.hid hn1
  clear hasm hn0 hm0 hs1 hn1 hm1 hs2
  have c0 : w.cell? ⟨0, 24, none⟩ = some (.string s0) := ho 6 (by decide) 0 _ (by simp [opRow, cntA, cntB, mostN, opName, hs0])
  have c1 : w.cell? ⟨0, 25, none⟩ = some (.int .i64 4) := ho 6 (by decide) 1 _ (by simp [opRow, cntA, cntB, mostN, opName])
  have c2 : w.cell? ⟨0, 26, none⟩ = some (.int .i64 1) := ho 6 (by decide) 2 _ (by simp [opRow, cntA, cntB, mostN, opName])
  have c3 : w.cell? ⟨0, 27, none⟩ = some (.int .i64 16) := ho 6 (by decide) 3 _ (by simp [opRow, cntA, cntB, mostN, opName])
  have HO := Lib.hid ho
  have HT := Lib.hid ht
  have hG := ho.lt
  clear hs0 ho ht
  go_enter Tryd.func14, Tryd.ntmps14
  go_wp2_with fail
  refine (implIs_any ⟨6, xa, xb, xn⟩ _ (ops_below (below_more (Below.refl _ _) _) HO.out) true (decide_eq_true hok)).mono ?_
  rintro e w1 ⟨rfl, hb1⟩
  have HX := Lib.hid (Blk.kept hb1 (Blk.new _ _ _))
  have HW := Lib.hid (below_then (below_more (Below.refl _ _) _) hb1)
  replace c0 := (HW.out.cell (p := ⟨0, 24, none⟩) hG).trans c0
  replace c1 := (HW.out.cell (p := ⟨0, 25, none⟩) hG).trans c1
  replace c2 := (HW.out.cell (p := ⟨0, 26, none⟩) hG).trans c2
  replace c3 := (HW.out.cell (p := ⟨0, 27, none⟩) hG).trans c3
  have hxl := HX.out.lt
  have hgl : 0 < w1.heap.size := Nat.lt_of_lt_of_le hG HW.out.size
  clear hb1
  have k0 := HX.out.cell 0 _ rfl
  have k1 := HX.out.cell 1 _ rfl
  have k2 := HX.out.cell 2 _ rfl
  have k3 := HX.out.cell 3 _ rfl
  go_wp2_with fail
  refine (I0.out _ (Fr.tabIs_below (below_more HW.out _) HT.out)).mono ?_
  rintro e w2 ⟨rfl, kk, os, hw⟩
  have hbb : Below (w1.alloc (.cells #[.string s0, .int .i64 4, .int .i64 1, .int .i64 16] 62)).heap.size (w1.alloc (.cells #[.string s0, .int .i64 4, .int .i64 1, .int .i64 16] 62)) w2 := by rw [hw]; exact below_gr _ _ (Below.refl _ _) _ _
  have HR := Lib.hid (Blk.kept hbb (Blk.new w1 #[.string s0, .int .i64 4, .int .i64 1, .int .i64 16] 62))
  replace HX := Lib.hid (Blk.kept hbb (Blk.alloc HX.out (.cells #[.string s0, .int .i64 4, .int .i64 1, .int .i64 16] 62)))
  replace HW := Lib.hid (below_then (below_more HW.out _) hbb)
  clear hw hbb k0 k1 k2 k3 c0 c1 c2 c3
  rw [show (⟨(Lib.itoa xa).toArray⟩ : ByteArray) = n0 from HN0.out]
  have k0 := HX.out.cell 0 _ rfl
  have d0 := HR.out.cell 0 _ rfl
  have k1 := HX.out.cell 1 _ rfl
  have d1 := HR.out.cell 1 _ rfl
  have k2 := HX.out.cell 2 _ rfl
  have d2 := HR.out.cell 2 _ rfl
  have k3 := HX.out.cell 3 _ rfl
  have d3 := HR.out.cell 3 _ rfl
  go_wp2_with fail
  refine (I1.out _ (Fr.tabIs_below HW.out HT.out)).mono ?_
  rintro e w3 ⟨rfl, kk, os, hw⟩
  have hbb : Below w2.heap.size w2 w3 := by rw [hw]; exact below_gr _ _ (Below.refl _ _) _ _
  replace HR := Lib.hid (Blk.kept hbb HR.out)
  replace HX := Lib.hid (Blk.kept hbb HX.out)
  replace HW := Lib.hid (below_then HW.out hbb)
  clear hw hbb k0 k1 k2 k3 d0 d1 d2 d3
  rw [show (⟨(Lib.itoa xn).toArray⟩ : ByteArray) = n1 from HN1.out]
  have k0 := HX.out.cell 0 _ rfl
  have d0 := HR.out.cell 0 _ rfl
  have k1 := HX.out.cell 1 _ rfl
  have d1 := HR.out.cell 1 _ rfl
  have k2 := HX.out.cell 2 _ rfl
  have d2 := HR.out.cell 2 _ rfl
  have k3 := HX.out.cell 3 _ rfl
  have d3 := HR.out.cell 3 _ rfl
  go_wp2_with fail
  go_ret2
  exact ⟨by rw [HASM.out]; rfl, HW.out⟩
set_option maxRecDepth 100000 in
set_option maxHeartbeats 1600000 in
theorem implAsm_7 (xa xb xn : Int) (w : World) (hok : Ok ⟨7, xa, xb, xn⟩) (ho : OpsIs w) (ht : Lib.TabIs Tryd.prog w "internal/strconv.uint64pow10" .u64 Lib.pow10Tab) :
    Calls Tryd.prog 14 #[.agg #[.int .i64 7, .int .i64 xa, .int .i64 xb, .int .i64 xn]] w fun e w' => e = .returned (.tuple #[.string (asmOf ⟨7, xa, xb, xn⟩), .bool true]) ∧ Below w.heap.size w w' := by
  have hbd := ok_bnd hok
  simp only at hbd
  obtain ⟨ha, hb, hn⟩ := hbd
  obtain ⟨s0, hs0⟩ : ∃ s : ByteArray, s = ⟨#[106, 117, 109, 112]⟩ := ⟨_, rfl⟩
  have z0 : s0.size ≤ 8 := by rw [hs0]; decide
  obtain ⟨n0, hn0⟩ : ∃ n, NumB xn = n := ⟨_, rfl⟩
  have y0 : n0.size ≤ 20 := by rw [← hn0]; exact num_size xn (by omega) (by omega)
  obtain ⟨m0, hm0⟩ : ∃ m, (⟨#[32]⟩ : ByteArray) ++ n0 = m := ⟨_, rfl⟩
  have x0 : m0.size ≤ 22 := by rw [← hm0, cat_size]; have : (⟨#[32]⟩ : ByteArray).size ≤ 2 := (by decide); omega
  obtain ⟨s1, hs1⟩ : ∃ s, s0 ++ m0 = s := ⟨_, rfl⟩
  have z1 : s1.size ≤ 30 := by rw [← hs1, cat_size]; omega
  have add0a := fun wx => run_string_add_sum (P := Tryd.prog) (w := wx) (⟨#[32]⟩ : ByteArray) n0 (by have : (⟨#[32]⟩ : ByteArray).size ≤ 2 := (by decide); omega)
  have add0b := fun wx => run_string_add_sum (P := Tryd.prog) (w := wx) s0 m0 (by omega)
  rw [hm0] at add0a
  rw [hs1] at add0b
  have I0 := Lib.hid fun (wx : World) (h : Lib.TabIs Tryd.prog wx "internal/strconv.uint64pow10" .u64 Lib.pow10Tab) => Tryd.strconv_Itoa xn (by omega) (by omega) wx h
  have hasm : asmOf ⟨7, xa, xb, xn⟩ = s1 := by
    unfold asmOf cntA cntB mostN opName
    simp only [sp, spr]
    simp [hs0, hn0, ← hs1, ← hm0]
  have HASM := Lib.hid hasm
  have HN0 := Lib.hid hn0
  clear hasm hn0 hm0 hs1
  have c0 : w.cell? ⟨0, 28, none⟩ = some (.string s0) := ho 7 (by decide) 0 _ (by simp [opRow, cntA, cntB, mostN, opName, hs0])
  have c1 : w.cell? ⟨0, 29, none⟩ = some (.int .i64 1) := ho 7 (by decide) 1 _ (by simp [opRow, cntA, cntB, mostN, opName])
  have c2 : w.cell? ⟨0, 30, none⟩ = some (.int .i64 1) := ho 7 (by decide) 2 _ (by simp [opRow, cntA, cntB, mostN, opName])
  have c3 : w.cell? ⟨0, 31, none⟩ = some (.int .i64 16) := ho 7 (by decide) 3 _ (by simp [opRow, cntA, cntB, mostN, opName])
  have HO := Lib.hid ho
  have HT := Lib.hid ht
  have hG := ho.lt
  clear hs0 ho ht
  go_enter Tryd.func14, Tryd.ntmps14
  go_wp2_with fail
  refine (implIs_any ⟨7, xa, xb, xn⟩ _ (ops_below (below_more (Below.refl _ _) _) HO.out) true (decide_eq_true hok)).mono ?_
  rintro e w1 ⟨rfl, hb1⟩
  have HX := Lib.hid (Blk.kept hb1 (Blk.new _ _ _))
  have HW := Lib.hid (below_then (below_more (Below.refl _ _) _) hb1)
  replace c0 := (HW.out.cell (p := ⟨0, 28, none⟩) hG).trans c0
  replace c1 := (HW.out.cell (p := ⟨0, 29, none⟩) hG).trans c1
  replace c2 := (HW.out.cell (p := ⟨0, 30, none⟩) hG).trans c2
  replace c3 := (HW.out.cell (p := ⟨0, 31, none⟩) hG).trans c3
  have hxl := HX.out.lt
  have hgl : 0 < w1.heap.size := Nat.lt_of_lt_of_le hG HW.out.size
  clear hb1
  have k0 := HX.out.cell 0 _ rfl
  have k1 := HX.out.cell 1 _ rfl
  have k2 := HX.out.cell 2 _ rfl
  have k3 := HX.out.cell 3 _ rfl
  go_wp2_with fail
  refine (I0.out _ (Fr.tabIs_below (below_more HW.out _) HT.out)).mono ?_
  rintro e w2 ⟨rfl, kk, os, hw⟩
  have hbb : Below (w1.alloc (.cells #[.string s0, .int .i64 1, .int .i64 1, .int .i64 16] 62)).heap.size (w1.alloc (.cells #[.string s0, .int .i64 1, .int .i64 1, .int .i64 16] 62)) w2 := by rw [hw]; exact below_gr _ _ (Below.refl _ _) _ _
  have HR := Lib.hid (Blk.kept hbb (Blk.new w1 #[.string s0, .int .i64 1, .int .i64 1, .int .i64 16] 62))
  replace HX := Lib.hid (Blk.kept hbb (Blk.alloc HX.out (.cells #[.string s0, .int .i64 1, .int .i64 1, .int .i64 16] 62)))
  replace HW := Lib.hid (below_then (below_more HW.out _) hbb)
  clear hw hbb k0 k1 k2 k3 c0 c1 c2 c3
  rw [show (⟨(Lib.itoa xn).toArray⟩ : ByteArray) = n0 from HN0.out]
  have k0 := HX.out.cell 0 _ rfl
  have d0 := HR.out.cell 0 _ rfl
  have k1 := HX.out.cell 1 _ rfl
  have d1 := HR.out.cell 1 _ rfl
  have k2 := HX.out.cell 2 _ rfl
  have d2 := HR.out.cell 2 _ rfl
  have k3 := HX.out.cell 3 _ rfl
  have d3 := HR.out.cell 3 _ rfl
  go_wp2_with fail
  go_ret2
  exact ⟨by rw [HASM.out]; rfl, HW.out⟩
set_option maxRecDepth 100000 in
set_option maxHeartbeats 1600000 in
theorem implAsm_8 (xa xb xn : Int) (w : World) (hok : Ok ⟨8, xa, xb, xn⟩) (ho : OpsIs w) (ht : Lib.TabIs Tryd.prog w "internal/strconv.uint64pow10" .u64 Lib.pow10Tab) :
    Calls Tryd.prog 14 #[.agg #[.int .i64 8, .int .i64 xa, .int .i64 xb, .int .i64 xn]] w fun e w' => e = .returned (.tuple #[.string (asmOf ⟨8, xa, xb, xn⟩), .bool true]) ∧ Below w.heap.size w w' := by
  have hbd := ok_bnd hok
  simp only at hbd
  obtain ⟨ha, hb, hn⟩ := hbd
  obtain ⟨s0, hs0⟩ : ∃ s : ByteArray, s = ⟨#[106, 117, 109, 112, 122, 101, 114, 111]⟩ := ⟨_, rfl⟩
  have z0 : s0.size ≤ 8 := by rw [hs0]; decide
  obtain ⟨n0, hn0⟩ : ∃ n, NumB xn = n := ⟨_, rfl⟩
  have y0 : n0.size ≤ 20 := by rw [← hn0]; exact num_size xn (by omega) (by omega)
  obtain ⟨m0, hm0⟩ : ∃ m, (⟨#[32]⟩ : ByteArray) ++ n0 = m := ⟨_, rfl⟩
  have x0 : m0.size ≤ 22 := by rw [← hm0, cat_size]; have : (⟨#[32]⟩ : ByteArray).size ≤ 2 := (by decide); omega
  obtain ⟨s1, hs1⟩ : ∃ s, s0 ++ m0 = s := ⟨_, rfl⟩
  have z1 : s1.size ≤ 30 := by rw [← hs1, cat_size]; omega
  have add0a := fun wx => run_string_add_sum (P := Tryd.prog) (w := wx) (⟨#[32]⟩ : ByteArray) n0 (by have : (⟨#[32]⟩ : ByteArray).size ≤ 2 := (by decide); omega)
  have add0b := fun wx => run_string_add_sum (P := Tryd.prog) (w := wx) s0 m0 (by omega)
  rw [hm0] at add0a
  rw [hs1] at add0b
  have I0 := Lib.hid fun (wx : World) (h : Lib.TabIs Tryd.prog wx "internal/strconv.uint64pow10" .u64 Lib.pow10Tab) => Tryd.strconv_Itoa xn (by omega) (by omega) wx h
  have hasm : asmOf ⟨8, xa, xb, xn⟩ = s1 := by
    unfold asmOf cntA cntB mostN opName
    simp only [sp, spr]
    simp [hs0, hn0, ← hs1, ← hm0]
  have HASM := Lib.hid hasm
  have HN0 := Lib.hid hn0
  clear hasm hn0 hm0 hs1
  have c0 : w.cell? ⟨0, 32, none⟩ = some (.string s0) := ho 8 (by decide) 0 _ (by simp [opRow, cntA, cntB, mostN, opName, hs0])
  have c1 : w.cell? ⟨0, 33, none⟩ = some (.int .i64 1) := ho 8 (by decide) 1 _ (by simp [opRow, cntA, cntB, mostN, opName])
  have c2 : w.cell? ⟨0, 34, none⟩ = some (.int .i64 1) := ho 8 (by decide) 2 _ (by simp [opRow, cntA, cntB, mostN, opName])
  have c3 : w.cell? ⟨0, 35, none⟩ = some (.int .i64 16) := ho 8 (by decide) 3 _ (by simp [opRow, cntA, cntB, mostN, opName])
  have HO := Lib.hid ho
  have HT := Lib.hid ht
  have hG := ho.lt
  clear hs0 ho ht
  go_enter Tryd.func14, Tryd.ntmps14
  go_wp2_with fail
  refine (implIs_any ⟨8, xa, xb, xn⟩ _ (ops_below (below_more (Below.refl _ _) _) HO.out) true (decide_eq_true hok)).mono ?_
  rintro e w1 ⟨rfl, hb1⟩
  have HX := Lib.hid (Blk.kept hb1 (Blk.new _ _ _))
  have HW := Lib.hid (below_then (below_more (Below.refl _ _) _) hb1)
  replace c0 := (HW.out.cell (p := ⟨0, 32, none⟩) hG).trans c0
  replace c1 := (HW.out.cell (p := ⟨0, 33, none⟩) hG).trans c1
  replace c2 := (HW.out.cell (p := ⟨0, 34, none⟩) hG).trans c2
  replace c3 := (HW.out.cell (p := ⟨0, 35, none⟩) hG).trans c3
  have hxl := HX.out.lt
  have hgl : 0 < w1.heap.size := Nat.lt_of_lt_of_le hG HW.out.size
  clear hb1
  have k0 := HX.out.cell 0 _ rfl
  have k1 := HX.out.cell 1 _ rfl
  have k2 := HX.out.cell 2 _ rfl
  have k3 := HX.out.cell 3 _ rfl
  go_wp2_with fail
  refine (I0.out _ (Fr.tabIs_below (below_more HW.out _) HT.out)).mono ?_
  rintro e w2 ⟨rfl, kk, os, hw⟩
  have hbb : Below (w1.alloc (.cells #[.string s0, .int .i64 1, .int .i64 1, .int .i64 16] 62)).heap.size (w1.alloc (.cells #[.string s0, .int .i64 1, .int .i64 1, .int .i64 16] 62)) w2 := by rw [hw]; exact below_gr _ _ (Below.refl _ _) _ _
  have HR := Lib.hid (Blk.kept hbb (Blk.new w1 #[.string s0, .int .i64 1, .int .i64 1, .int .i64 16] 62))
  replace HX := Lib.hid (Blk.kept hbb (Blk.alloc HX.out (.cells #[.string s0, .int .i64 1, .int .i64 1, .int .i64 16] 62)))
  replace HW := Lib.hid (below_then (below_more HW.out _) hbb)
  clear hw hbb k0 k1 k2 k3 c0 c1 c2 c3
  rw [show (⟨(Lib.itoa xn).toArray⟩ : ByteArray) = n0 from HN0.out]
  have k0 := HX.out.cell 0 _ rfl
  have d0 := HR.out.cell 0 _ rfl
  have k1 := HX.out.cell 1 _ rfl
  have d1 := HR.out.cell 1 _ rfl
  have k2 := HX.out.cell 2 _ rfl
  have d2 := HR.out.cell 2 _ rfl
  have k3 := HX.out.cell 3 _ rfl
  have d3 := HR.out.cell 3 _ rfl
  go_wp2_with fail
  go_ret2
  exact ⟨by rw [HASM.out]; rfl, HW.out⟩
set_option maxRecDepth 100000 in
set_option maxHeartbeats 1600000 in
theorem implAsm_9 (xa xb xn : Int) (w : World) (hok : Ok ⟨9, xa, xb, xn⟩) (ho : OpsIs w) (ht : Lib.TabIs Tryd.prog w "internal/strconv.uint64pow10" .u64 Lib.pow10Tab) :
    Calls Tryd.prog 14 #[.agg #[.int .i64 9, .int .i64 xa, .int .i64 xb, .int .i64 xn]] w fun e w' => e = .returned (.tuple #[.string (asmOf ⟨9, xa, xb, xn⟩), .bool true]) ∧ Below w.heap.size w w' := by
  have hbd := ok_bnd hok
  simp only at hbd
  obtain ⟨ha, hb, hn⟩ := hbd
  obtain ⟨s0, hs0⟩ : ∃ s : ByteArray, s = ⟨#[116, 114, 97, 112]⟩ := ⟨_, rfl⟩
  have z0 : s0.size ≤ 8 := by rw [hs0]; decide
  obtain ⟨n0, hn0⟩ : ∃ n, NumB xn = n := ⟨_, rfl⟩
  have y0 : n0.size ≤ 20 := by rw [← hn0]; exact num_size xn (by omega) (by omega)
  obtain ⟨m0, hm0⟩ : ∃ m, (⟨#[32]⟩ : ByteArray) ++ n0 = m := ⟨_, rfl⟩
  have x0 : m0.size ≤ 22 := by rw [← hm0, cat_size]; have : (⟨#[32]⟩ : ByteArray).size ≤ 2 := (by decide); omega
  obtain ⟨s1, hs1⟩ : ∃ s, s0 ++ m0 = s := ⟨_, rfl⟩
  have z1 : s1.size ≤ 30 := by rw [← hs1, cat_size]; omega
  have add0a := fun wx => run_string_add_sum (P := Tryd.prog) (w := wx) (⟨#[32]⟩ : ByteArray) n0 (by have : (⟨#[32]⟩ : ByteArray).size ≤ 2 := (by decide); omega)
  have add0b := fun wx => run_string_add_sum (P := Tryd.prog) (w := wx) s0 m0 (by omega)
  rw [hm0] at add0a
  rw [hs1] at add0b
  have I0 := Lib.hid fun (wx : World) (h : Lib.TabIs Tryd.prog wx "internal/strconv.uint64pow10" .u64 Lib.pow10Tab) => Tryd.strconv_Itoa xn (by omega) (by omega) wx h
  have hasm : asmOf ⟨9, xa, xb, xn⟩ = s1 := by
    unfold asmOf cntA cntB mostN opName
    simp only [sp, spr]
    simp [hs0, hn0, ← hs1, ← hm0]
  have HASM := Lib.hid hasm
  have HN0 := Lib.hid hn0
  clear hasm hn0 hm0 hs1
  have c0 : w.cell? ⟨0, 36, none⟩ = some (.string s0) := ho 9 (by decide) 0 _ (by simp [opRow, cntA, cntB, mostN, opName, hs0])
  have c1 : w.cell? ⟨0, 37, none⟩ = some (.int .i64 1) := ho 9 (by decide) 1 _ (by simp [opRow, cntA, cntB, mostN, opName])
  have c2 : w.cell? ⟨0, 38, none⟩ = some (.int .i64 1) := ho 9 (by decide) 2 _ (by simp [opRow, cntA, cntB, mostN, opName])
  have c3 : w.cell? ⟨0, 39, none⟩ = some (.int .i64 256) := ho 9 (by decide) 3 _ (by simp [opRow, cntA, cntB, mostN, opName])
  have HO := Lib.hid ho
  have HT := Lib.hid ht
  have hG := ho.lt
  clear hs0 ho ht
  go_enter Tryd.func14, Tryd.ntmps14
  go_wp2_with fail
  refine (implIs_any ⟨9, xa, xb, xn⟩ _ (ops_below (below_more (Below.refl _ _) _) HO.out) true (decide_eq_true hok)).mono ?_
  rintro e w1 ⟨rfl, hb1⟩
  have HX := Lib.hid (Blk.kept hb1 (Blk.new _ _ _))
  have HW := Lib.hid (below_then (below_more (Below.refl _ _) _) hb1)
  replace c0 := (HW.out.cell (p := ⟨0, 36, none⟩) hG).trans c0
  replace c1 := (HW.out.cell (p := ⟨0, 37, none⟩) hG).trans c1
  replace c2 := (HW.out.cell (p := ⟨0, 38, none⟩) hG).trans c2
  replace c3 := (HW.out.cell (p := ⟨0, 39, none⟩) hG).trans c3
  have hxl := HX.out.lt
  have hgl : 0 < w1.heap.size := Nat.lt_of_lt_of_le hG HW.out.size
  clear hb1
  have k0 := HX.out.cell 0 _ rfl
  have k1 := HX.out.cell 1 _ rfl
  have k2 := HX.out.cell 2 _ rfl
  have k3 := HX.out.cell 3 _ rfl
  go_wp2_with fail
  refine (I0.out _ (Fr.tabIs_below (below_more HW.out _) HT.out)).mono ?_
  rintro e w2 ⟨rfl, kk, os, hw⟩
  have hbb : Below (w1.alloc (.cells #[.string s0, .int .i64 1, .int .i64 1, .int .i64 256] 62)).heap.size (w1.alloc (.cells #[.string s0, .int .i64 1, .int .i64 1, .int .i64 256] 62)) w2 := by rw [hw]; exact below_gr _ _ (Below.refl _ _) _ _
  have HR := Lib.hid (Blk.kept hbb (Blk.new w1 #[.string s0, .int .i64 1, .int .i64 1, .int .i64 256] 62))
  replace HX := Lib.hid (Blk.kept hbb (Blk.alloc HX.out (.cells #[.string s0, .int .i64 1, .int .i64 1, .int .i64 256] 62)))
  replace HW := Lib.hid (below_then (below_more HW.out _) hbb)
  clear hw hbb k0 k1 k2 k3 c0 c1 c2 c3
  rw [show (⟨(Lib.itoa xn).toArray⟩ : ByteArray) = n0 from HN0.out]
  have k0 := HX.out.cell 0 _ rfl
  have d0 := HR.out.cell 0 _ rfl
  have k1 := HX.out.cell 1 _ rfl
  have d1 := HR.out.cell 1 _ rfl
  have k2 := HX.out.cell 2 _ rfl
  have d2 := HR.out.cell 2 _ rfl
  have k3 := HX.out.cell 3 _ rfl
  have d3 := HR.out.cell 3 _ rfl
  go_wp2_with fail
  go_ret2
  exact ⟨by rw [HASM.out]; rfl, HW.out⟩
end Go.Proofs.YtfdbnolifimnhabDoor.L3
