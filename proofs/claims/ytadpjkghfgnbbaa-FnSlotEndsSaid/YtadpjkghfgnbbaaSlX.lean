/- What slices.Index of an empty slot among valid slots answers; an array of four slots as an owned row. -/
import Derived.Test.YtadpjkghfgnbbaaSlA
import Derived.Test.YtadpjkghfgnbbaaSltT
import Derived.BigQuiet
import Derived.Laws.Cover3
namespace Go.Proofs.Ytadpjkghfgnbbaa.L8
open Go Go.RowKit Go.Proofs.Ytadpjkghfgnbbaa.Mem Go.Proofs.Ytadpjkghfgnbbaa.Own Go.Proofs.Ytadpjkghfgnbbaa.L6
theorem below_dN (w : World) (n : Nat) : Below w.heap.size w (w.drewN n) := ⟨rfl, rfl, rfl, Nat.le_refl _, fun _ _ => rfl⟩
set_option maxRecDepth 100000 in
set_option maxHeartbeats 2000000 in
theorem index_any (A : Option Addr) (c : Nat) (xs : List Slt) (w : World) (hr : Reads w w.heap.size 3 A 4 (FL xs)) (ho : okB xs = true) :
    Calls Try.prog 61 #[.slice A 4 c, .agg #[.int .i64 0, .int .i64 0, .int .i64 0]] w fun e w' => e = .returned (.int .i64 (fre xs)) ∧ Below w.heap.size w w' := by
  have HL : Hid (xs.length = 4) := Lib.hid (reads_len hr)
  have HR := Lib.hid hr
  have HG := Lib.hid ho
  obtain ⟨p, hp⟩ : ∃ p : Slt → Bool, (fun x => x.st == 0) = p := ⟨_, rfl⟩
  have HP : Hid (∀ x, p x = (x.st == 0)) := Lib.hid (by rw [← hp]; intro x; rfl)
  have HE : Hid (fre xs = ixOf p xs) := Lib.hid (by rw [← hp]; rfl)
  rw [HE.out]
  clear hr ho hp HE
  obtain ⟨wb, hwb⟩ : ∃ wb, w.alloc (.cells #[.int .i64 0, .int .i64 0, .int .i64 0] 33) = wb := ⟨_, rfl⟩
  have HX0 : Hid (Blk wb w.heap.size 33 #[.int .i64 0, .int .i64 0, .int .i64 0]) := Lib.hid (by rw [← hwb]; exact Blk.new _ _ _)
  have HB0 : Hid (Below w.heap.size w wb) := Lib.hid (by rw [← hwb]; exact below_more (Below.refl _ _) _)
  have HWB := Lib.hid hwb
  clear hwb
  go_enter Try.func61, Try.ntmps61
  go_upto_region 1 with fail
  rw [HWB.out]
  clear HWB
  go_wp2_with fail
  go_loopw [8] (fun i wr => ∃ (k : Nat), i = .int .i64 k ∧ k ≤ 4 ∧ Hid ((xs.take k).any p = false) ∧ Hid (Below w.heap.size w wr) ∧ Hid (Blk wr w.heap.size 33 #[.int .i64 0, .int .i64 0, .int .i64 0])) (fun i _ => 4 - (intOf i).toNat)
  case atStart => exact ⟨0, rfl, Nat.zero_le _, Lib.hid (by simp), HB0, HX0⟩
  case round =>
    obtain ⟨k, rfl, hk, HA, HB, HX⟩ := hrel
    by_cases hlt : k < 4
    · obtain ⟨b1, o1, x, rfl, _, hx, c0, c1, c2⟩ := slt_at (HR.out.below HB.out) hlt
      have HXX := Lib.hid hx
      have HT := Lib.hid (any_takeS (p := p) hx)
      have HQ := Lib.hid (HP.out x)
      have HOK := Lib.hid (okB_ok HG.out hx)
      have HB2 : ∀ n, Hid (Below w.heap.size w (wr.drewN n)) := fun n => Lib.hid (below_then HB.out (below_dN wr n))
      have HX2 : ∀ n, Hid (Blk (wr.drewN n) w.heap.size 33 #[.int .i64 0, .int .i64 0, .int .i64 0]) := fun n => Lib.hid HX.out
      have k0 : wr.cell? ⟨w.heap.size, 0, none⟩ = some (.int .i64 0) := HX.out.cell 0 _ rfl
      have k1 : wr.cell? ⟨w.heap.size, 1, none⟩ = some (.int .i64 0) := HX.out.cell 1 _ rfl
      have k2 : wr.cell? ⟨w.heap.size, 2, none⟩ = some (.int .i64 0) := HX.out.cell 2 _ rfl
      clear hx HX HB
      obtain ⟨x0, x1, x2⟩ := x
      simp only at c0 c1 c2
      by_cases h0 : x0 = 0
      · subst h0
        have hz : x1 = 0 ∧ x2 = 0 := by have h := HOK.out; unfold Ok at h; simp only at h; omega
        obtain ⟨rfl, rfl⟩ := hz
        have HF : Hid (ixOf p xs = k) := Lib.hid (ixOf_at HXX.out HA.out (by rw [HQ.out]; rfl))
        clear HA HT HQ HOK
        go_wp2_with fail
        go_quiet (fail)
        have hb := HB2 nq
        clear k0 k1 k2 c0 c1 c2
        go_wp2_with fail
        go_ret
        exact ⟨by rw [HF.out]; rfl, hb.out⟩
      · have t0 : ((0 : Int) == x0) = false := by simp; omega
        have HA2 : Hid ((xs.take (k + 1)).any p = false) := Lib.hid (by rw [HT.out, HA.out, HQ.out]; simp [h0])
        clear HA HT HQ HOK h0
        go_wp2_with fail
        go_quiet (fail)
        have hb := HB2 nq
        have hx2 := HX2 nq
        clear k0 k1 k2 c0 c1 c2 t0
        go_wp2_with fail
        go_roundw
        case rel => exact ⟨k + 1, by go_num, by omega, HA2, hb, hx2⟩
        case measure => simp [intOf]; omega
    · have hkn : k = 4 := by omega
      subst hkn
      have HF : Hid (ixOf p xs = -1) := Lib.hid (ixOf_no (by have h := HA.out; rwa [List.take_of_length_le (by rw [HL.out]; exact Nat.le_refl _)] at h))
      clear HA
      go_wp2_with fail
      go_ret
      exact ⟨by rw [HF.out]; rfl, HB.out⟩
/-- an array of four slots, as a slice of the call's own -/
theorem own_arr {w : World} {g base : Nat} {t : TypeId} {xs : List Slt} (h : Blk w g t (FL xs).toArray) (h4 : xs.length = 4) (hb : base ≤ g) : w.ownsRow base t 3 (.slice (some ⟨g, 0, none⟩) 4 4) 4 (FL xs) := by
  have hl : (FL xs).length = 12 := by rw [FL_len, h4]; rfl
  have ht : ((FL xs).toArray.toList).take (4 * 3) = FL xs := by
    rw [List.toList_toArray]
    exact List.take_of_length_le (by rw [hl]; exact Nat.le_refl _)
  exact ⟨hl, .inr ⟨g, 4, (FL xs).toArray, rfl, hb, h, Nat.le_refl _, by unfold maxLen; omega, by simp [hl], ht⟩⟩
/-- the cells of four slots that are read -/
theorem four {xs : List Slt} (h4 : xs.length = 4) : ∃ a0 a1 a2 b0 b1 b2 c0 c1 c2 d0 d1 d2 : Int, xs = [⟨a0, a1, a2⟩, ⟨b0, b1, b2⟩, ⟨c0, c1, c2⟩, ⟨d0, d1, d2⟩] := by
  match xs, h4 with
  | [⟨a0, a1, a2⟩, ⟨b0, b1, b2⟩, ⟨c0, c1, c2⟩, ⟨d0, d1, d2⟩], _ => exact ⟨a0, a1, a2, b0, b1, b2, c0, c1, c2, d0, d1, d2, rfl⟩
theorem cells12 {w : World} {B : Nat} {A : Option Addr} {xs : List Slt} (h : Reads w B 3 A 4 (FL xs)) : ∃ b off, A = some ⟨b, off, none⟩ ∧ b < B ∧ ∃ a0 a1 a2 b0 b1 b2 c0 c1 c2 d0 d1 d2 : Int, FL xs = [.int .i64 a0, .int .i64 a1, .int .i64 a2, .int .i64 b0, .int .i64 b1, .int .i64 b2, .int .i64 c0, .int .i64 c1, .int .i64 c2, .int .i64 d0, .int .i64 d1, .int .i64 d2] ∧
    w.cell? ⟨b, off, none⟩ = some (.int .i64 a0) ∧ w.cell? ⟨b, off + 1, none⟩ = some (.int .i64 a1) ∧ w.cell? ⟨b, off + 2, none⟩ = some (.int .i64 a2) ∧ w.cell? ⟨b, off + 3, none⟩ = some (.int .i64 b0) ∧ w.cell? ⟨b, off + 4, none⟩ = some (.int .i64 b1) ∧ w.cell? ⟨b, off + 5, none⟩ = some (.int .i64 b2) ∧ w.cell? ⟨b, off + 6, none⟩ = some (.int .i64 c0) ∧ w.cell? ⟨b, off + 7, none⟩ = some (.int .i64 c1) ∧ w.cell? ⟨b, off + 8, none⟩ = some (.int .i64 c2) ∧ w.cell? ⟨b, off + 9, none⟩ = some (.int .i64 d0) ∧ w.cell? ⟨b, off + 10, none⟩ = some (.int .i64 d1) ∧ w.cell? ⟨b, off + 11, none⟩ = some (.int .i64 d2) := by
  have h4 : xs.length = 4 := reads_len h
  obtain ⟨b, off, e, hb, hc⟩ := h.2 (by omega)
  obtain ⟨a0, a1, a2, b0, b1, b2, c0, c1, c2, d0, d1, d2, rfl⟩ := four h4
  exact ⟨b, off, e, hb, a0, a1, a2, b0, b1, b2, c0, c1, c2, d0, d1, d2, rfl, hc 0 _ rfl, hc 1 _ rfl, hc 2 _ rfl, hc 3 _ rfl, hc 4 _ rfl, hc 5 _ rfl, hc 6 _ rfl, hc 7 _ rfl, hc 8 _ rfl, hc 9 _ rfl, hc 10 _ rfl, hc 11 _ rfl⟩
/-- slots as a pointer to an array of them -/
theorem arrayAt_any (A : Option Addr) (c : Nat) (w : World) : (Instr.arrayAt 66 (.slice A 4 c)).run Try.prog w = .ok (.pointer A) w := run_arrayAt w 66 _ 4 A 4 c Try.underlying66 (Nat.le_refl _)
theorem set_same {L : List Value} {j : Nat} {v : Value} (h : L[j]? = some v) : L.set j v = L := by
  apply List.ext_getElem?
  intro i
  by_cases e : j = i
  · subst e
    rw [List.getElem?_set_self (List.getElem?_eq_some_iff.1 h).1, h]
  · rw [List.getElem?_set_ne e]
/-- the state of a slot, stored alone -/
theorem fl_set0 {xs : List Slt} {k : Nat} {x : Slt} (hx : xs[k]? = some x) (z : Int) : (FL xs).set (k * 3) (.int .i64 z) = FL (xs.set k { x with st := z }) := by
  have hk := (List.getElem?_eq_some_iff.1 hx).1
  rw [← slt_fl_set xs k _ hk]
  simp only
  have h1 : ((FL xs).set (k * 3) (.int .i64 z))[k * 3 + 1]? = some (.int .i64 x.iq) := by rw [List.getElem?_set_ne (by omega)]; exact FL_at (i := 1) hx rfl
  have h2 : ((FL xs).set (k * 3) (.int .i64 z))[k * 3 + 2]? = some (.int .i64 x.pr) := by rw [List.getElem?_set_ne (by omega)]; exact FL_at (i := 2) hx rfl
  rw [set_same h1, set_same h2]
/-- four slots, an answer of two or three parts -/
def SlPost (w : World) (r : List Slt × Bool) (e : Ending) (w' : World) : Prop :=
  ∃ A' c' t, e = .returned (.tuple #[.slice A' r.1.length c', .bool r.2]) ∧ w'.ownsRow w.heap.size t 3 (.slice A' r.1.length c') r.1.length (FL r.1) ∧ Below w.heap.size w w'
def SlPost3 (w : World) (r : List Slt × Int × Bool) (e : Ending) (w' : World) : Prop :=
  ∃ A' c' t, e = .returned (.tuple #[.slice A' r.1.length c', .int .i64 r.2.1, .bool r.2.2]) ∧ w'.ownsRow w.heap.size t 3 (.slice A' r.1.length c') r.1.length (FL r.1) ∧ Below w.heap.size w w'
theorem slPost_no {w w' : World} (hb : Below w.heap.size w w') : SlPost w ([], false) (.returned (.tuple #[.slice none 0 0, .bool false])) w' := ⟨none, 0, 33, rfl, World.ownsRow_nil _ _ _ _, hb⟩
theorem slPost3_no {w w' : World} (hb : Below w.heap.size w w') : SlPost3 w ([], 0, false) (.returned (.tuple #[.slice none 0 0, .int .i64 0, .bool false])) w' := ⟨none, 0, 33, rfl, World.ownsRow_nil _ _ _ _, hb⟩
theorem slPost_4 {w w' : World} {l : List Slt} {g c : Nat} {t : TypeId} (hl : l.length = 4) (ho : w'.ownsRow w.heap.size t 3 (.slice (some ⟨g, 0, none⟩) 4 c) 4 (FL l)) (hb : Below w.heap.size w w') : SlPost w (l, true) (.returned (.tuple #[.slice (some ⟨g, 0, none⟩) 4 c, .bool true])) w' :=
  ⟨some ⟨g, 0, none⟩, c, t, by rw [hl], by rw [hl]; exact ho, hb⟩
theorem slPost3_4 {w w' : World} {l : List Slt} {g c : Nat} {t : TypeId} {z : Int} (hl : l.length = 4) (ho : w'.ownsRow w.heap.size t 3 (.slice (some ⟨g, 0, none⟩) 4 c) 4 (FL l)) (hb : Below w.heap.size w w') : SlPost3 w (l, z, true) (.returned (.tuple #[.slice (some ⟨g, 0, none⟩) 4 c, .int .i64 z, .bool true])) w' :=
  ⟨some ⟨g, 0, none⟩, c, t, by rw [hl], by rw [hl]; exact ho, hb⟩
end Go.Proofs.Ytadpjkghfgnbbaa.L8
