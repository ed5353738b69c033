/- What spec.l8Text answers. -/
import Derived.Test.YtadpjkghfgnbbaaDoorSlTx
import Derived.BigQuiet
namespace Go.Proofs.YtadpjkghfgnbbaaDoor.L8
open Go Go.RowKit Go.Proofs.YtadpjkghfgnbbaaDoor.Mem Go.Proofs.YtadpjkghfgnbbaaDoor.Own Go.Proofs.YtadpjkghfgnbbaaDoor.L1
open Go.BigFrame
theorem below_dT (w : World) (n : Nat) : Below w.heap.size w (w.drewN n) := ⟨rfl, rfl, rfl, Nat.le_refl _, fun _ _ => rfl⟩
/-- the text of the first k slots -/
def JT (xs : List Slt) (k : Nat) : ByteArray := if k = 0 then ByteArray.empty else JB ((xs.map tx).take k) spc
theorem jt_first {xs : List Slt} {x : Slt} (h : xs[0]? = some x) : ByteArray.empty ++ tx x = JT xs (0 + 1) := by
  unfold JT
  rw [if_neg (by omega), jb_one (xs.map tx) spc (tx x) (by rw [List.getElem?_map, h]; rfl), ByteArray.empty_append]
theorem jt_next {xs : List Slt} {x : Slt} {k0 : Nat} (h : xs[k0 + 1]? = some x) : (JT xs (k0 + 1) ++ ({ data := #[32] } : ByteArray)) ++ tx x = JT xs (k0 + 1 + 1) := by
  unfold JT
  rw [if_neg (by omega), if_neg (by omega), jb_succ (xs.map tx) spc (tx x) (k0 + 1) (by omega) (by rw [List.getElem?_map, h]; rfl)]
  rfl
theorem jt_all {xs : List Slt} (h : xs.length = 4) : JT xs 4 = txs xs := by
  unfold JT txs
  rw [if_neg (by omega), List.take_of_length_le (by simp [h])]
set_option maxRecDepth 100000 in
set_option maxHeartbeats 800000 in
theorem l8Text_any (A : Option Addr) (c : Nat) (xs : List Slt) (w : World) (hr : Reads w w.heap.size 3 A 4 (FL xs)) (ho : ∀ (j : Nat) (x : Slt), xs[j]? = some x → Ok x) :
    Calls Tryd.prog 15 #[.slice A 4 c] w fun e w' => e = .returned (.string (txs xs)) ∧ Below w.heap.size w w' := by
  have HR := Lib.hid hr
  have HG := Lib.hid ho
  have HL : Hid (xs.length = 4) := Lib.hid (reads_len hr)
  clear hr ho
  go_enter Tryd.func15, Tryd.ntmps15
  go_wp2_with fail
  go_loopw [3, 4] (fun u3 u4 wr => ∃ (k : Nat) (S : ByteArray), u4 = .int .i64 k ∧ k ≤ 4 ∧ u3 = .string S ∧ S.size ≤ 43 * k ∧ Hid (S = JT xs k) ∧ Hid (Below w.heap.size w wr)) (fun _ u4 _ => 4 - (intOf u4).toNat)
  case atStart => exact ⟨0, ByteArray.empty, rfl, Nat.zero_le _, rfl, Nat.le_refl _, Lib.hid rfl, Lib.hid (Below.refl _ _)⟩
  case round =>
    obtain ⟨k, S, rfl, hk, rfl, zS, HS, HB⟩ := hrel
    by_cases hlt : k < 4
    · obtain ⟨b1, o1, x, rfl, _, hx, c0, c1, c2⟩ := slt_at ((HR.out.below HB.out).more HB.out.size) hlt
      have HBN : Hid (∀ n, Below w.heap.size w (wr.drewN n)) := Lib.hid (fun n => below_then HB.out (below_dT wr n))
      have hst := st_ofT (HG.out k x hx)
      have hbd := bndT (HG.out k x hx)
      have HX0 : Hid (x.st = 0 → tx x = { data := #[45] }) := Lib.hid (fun h => by unfold tx; rw [if_pos h])
      have HX1 : Hid (x.st ≠ 0 → tx x = ((mkS x.st ++ NumB x.iq) ++ col) ++ NumB x.pr) := Lib.hid (fun h => by unfold tx; rw [if_neg h])
      have HJ1 : Hid (k = 0 → S = ByteArray.empty ∧ ByteArray.empty ++ tx x = JT xs (0 + 1)) := Lib.hid (fun h => by subst h; exact ⟨HS.out, jt_first hx⟩)
      have HJ2 : Hid (∀ k0, k = k0 + 1 → (S ++ ({ data := #[32] } : ByteArray)) ++ tx x = JT xs (k0 + 1 + 1)) := Lib.hid (fun k0 h => by subst h; rw [HS.out]; exact jt_next hx)
      obtain ⟨T, hT⟩ : ∃ T, tx x = T := ⟨_, rfl⟩
      rw [hT] at HX0 HX1 HJ1 HJ2
      clear hx hT HS
      obtain ⟨x0, x1, x2⟩ := x
      simp only at c0 c1 c2 hst hbd HX0 HX1
      obtain ⟨⟨hi0, hi1⟩, hp0, hp1⟩ := hbd
      have zi := numB_size x1 hi0 (by omega)
      have zp := numB_size x2 hp0 (by omega)
      have cI : ∀ n, Calls Tryd.prog 29 #[.int .i64 x1] (wr.drewN n) fun e w'' => e = .returned (.string (NumB x1)) ∧ ∃ m, w'' = wr.drewN m := fun n => Calls.quiet_of (l1Num_int x1 (by omega) (by omega) _)
      have cP : ∀ n, Calls Tryd.prog 29 #[.int .i64 x2] (wr.drewN n) fun e w'' => e = .returned (.string (NumB x2)) ∧ ∃ m, w'' = wr.drewN m := fun n => Calls.quiet_of (l1Num_int x2 (by omega) (by omega) _)
      obtain ⟨ni, hni⟩ : ∃ s, NumB x1 = s := ⟨_, rfl⟩
      obtain ⟨np, hnp⟩ : ∃ s, NumB x2 = s := ⟨_, rfl⟩
      rw [hni] at zi cI HX1
      rw [hnp] at zp cP HX1
      have HX := HX1
      clear hni hnp HX1 hi0 hi1 hp0 hp1
      by_cases hk0 : k = 0
      · have HJ : Hid (S ++ T = JT xs (0 + 1)) := Lib.hid (by rw [(HJ1.out hk0).1]; exact (HJ1.out hk0).2)
        subst hk0
        simp only [Nat.zero_mul, Nat.add_zero] at c0 c1 c2
        clear HJ1 HJ2
        rcases hst with rfl | hst
        · have hsl := fun wx => run_slice_string (P := Tryd.prog) (w := wx) 9 { data := #[45, 112, 97, 98] } .i64 .i64 0 (0 + 1) Tryd.underlying9 (by omega) (by omega) (by decide)
          rw [show ({ data := #[45, 112, 97, 98] } : ByteArray).extract (0 : Int).toNat (0 + 1 : Int).toNat = { data := #[45] } by apply ByteArray.ext; decide +kernel] at hsl
          have hc1 := fun wx => run_string_add_sum (P := Tryd.prog) (w := wx) S { data := #[45] } (by show _ + 1 ≤ _; omega)
          have HS2 : Hid (S ++ { data := #[45] } = JT xs (0 + 1)) := Lib.hid (by rw [← HJ.out, HX0.out rfl])
          have HZ2 : Hid ((S ++ ({ data := #[45] } : ByteArray)).size ≤ 43 * (0 + 1)) := Lib.hid (by rw [ByteArray.size_append]; show _ + 1 ≤ _; omega)
          clear HJ HX HX0
          go_wp2_with fail
          go_roundw
          case rel => exact ⟨0 + 1, _, by go_num, by omega, rfl, HZ2.out, HS2, HB⟩
          case measure => simp [intOf] <;> omega
        · obtain ⟨m, hm⟩ : ∃ m, mkS x0 = m := ⟨_, rfl⟩
          have hms : m.size = 1 := by rw [← hm]; exact mkS_size x0
          have hmk : ({ data := #[45, 112, 97, 98] } : ByteArray).extract x0.toNat (x0 + 1).toNat = m := by
            rw [← hm]
            rcases hst with rfl | rfl | rfl <;> (apply ByteArray.ext; decide +kernel)
          have hsl := fun wx => run_slice_string (P := Tryd.prog) (w := wx) 9 { data := #[45, 112, 97, 98] } .i64 .i64 x0 (x0 + 1) Tryd.underlying9 (by omega) (by omega) (by show x0 + 1 ≤ 4; omega)
          rw [hmk] at hsl
          have hc0 := fun wx => run_string_add_sum (P := Tryd.prog) (w := wx) S m (by omega)
          have hc1 := fun wx => run_string_add_sum (P := Tryd.prog) (w := wx) (S ++ m) ni (by rw [ByteArray.size_append]; omega)
          have hc2 := fun wx => run_string_add_sum (P := Tryd.prog) (w := wx) ((S ++ m) ++ ni) { data := #[58] } (by rw [ByteArray.size_append, ByteArray.size_append]; show _ + 1 ≤ _; omega)
          have hc3 := fun wx => run_string_add_sum (P := Tryd.prog) (w := wx) (((S ++ m) ++ ni) ++ { data := #[58] }) np (by rw [ByteArray.size_append, ByteArray.size_append, ByteArray.size_append]; show _ + 1 + _ ≤ _; omega)
          have HS2 : Hid ((((S ++ m) ++ ni) ++ ({ data := #[58] } : ByteArray)) ++ np = JT xs (0 + 1)) := Lib.hid (by rw [← HJ.out, HX.out (by omega), hm]; simp only [ByteArray.append_assoc]; rfl)
          have HZ2 : Hid (((((S ++ m) ++ ni) ++ ({ data := #[58] } : ByteArray)) ++ np).size ≤ 43 * (0 + 1)) := Lib.hid (by rw [ByteArray.size_append, ByteArray.size_append, ByteArray.size_append, ByteArray.size_append]; show _ + _ + _ + 1 + _ ≤ _; omega)
          have tx0 : decide (x0 > 0) = true := decide_eq_true (by omega)
          have hw0 : IntKind.i64.wrap (x0 + 1) = x0 + 1 := IntWalk.i64_in _ (by omega)
          clear HJ HX HX0 hm hms hmk hst zi zp
          go_wp2_with fail
          go_big_quiet (first | (with_reducible exact cI _) | (with_reducible exact cP _))
          have hbn := Lib.hid (HBN.out nq)
          clear cI cP c0 c1 c2 hsl hc0 hc1 hc2 hc3 tx0 hw0
          go_wp2_with fail
          go_roundw
          case rel => exact ⟨0 + 1, _, by go_num, by omega, rfl, HZ2.out, HS2, hbn⟩
          case measure => simp [intOf] <;> omega
      · obtain ⟨k0, hk1⟩ : ∃ k0, k = k0 + 1 := ⟨k - 1, by omega⟩
        have HJ := Lib.hid (HJ2.out k0 hk1)
        subst hk1
        have tk : decide (((k0 + 1 : Nat) : Int) > 0) = true := decide_eq_true (by omega)
        clear HJ1 HJ2 hk0
        have hsp := fun wx => run_string_add_sum (P := Tryd.prog) (w := wx) S { data := #[32] } (by show _ + 1 ≤ _; omega)
        have zs1 : (S ++ { data := #[32] }).size ≤ S.size + 1 := by rw [ByteArray.size_append]; exact Nat.le_refl _
        obtain ⟨S1, hS1⟩ : ∃ S1, (S ++ { data := #[32] }) = S1 := ⟨_, rfl⟩
        rw [hS1] at hsp
        rw [hS1] at zs1
        rw [hS1] at HJ
        rcases hst with rfl | hst
        · have hsl := fun wx => run_slice_string (P := Tryd.prog) (w := wx) 9 { data := #[45, 112, 97, 98] } .i64 .i64 0 (0 + 1) Tryd.underlying9 (by omega) (by omega) (by decide)
          rw [show ({ data := #[45, 112, 97, 98] } : ByteArray).extract (0 : Int).toNat (0 + 1 : Int).toNat = { data := #[45] } by apply ByteArray.ext; decide +kernel] at hsl
          have hc1 := fun wx => run_string_add_sum (P := Tryd.prog) (w := wx) S1 { data := #[45] } (by show _ + 1 ≤ _; omega)
          have HS2 : Hid (S1 ++ { data := #[45] } = JT xs ((k0 + 1) + 1)) := Lib.hid (by rw [← HJ.out, HX0.out rfl])
          have HZ2 : Hid ((S1 ++ ({ data := #[45] } : ByteArray)).size ≤ 43 * ((k0 + 1) + 1)) := Lib.hid (by rw [ByteArray.size_append]; show _ + 1 ≤ _; omega)
          clear hS1 HJ HX HX0
          go_wp2_with fail
          go_roundw
          case rel => exact ⟨(k0 + 1) + 1, _, by go_num, by omega, rfl, HZ2.out, HS2, HB⟩
          case measure => simp [intOf] <;> omega
        · obtain ⟨m, hm⟩ : ∃ m, mkS x0 = m := ⟨_, rfl⟩
          have hms : m.size = 1 := by rw [← hm]; exact mkS_size x0
          have hmk : ({ data := #[45, 112, 97, 98] } : ByteArray).extract x0.toNat (x0 + 1).toNat = m := by
            rw [← hm]
            rcases hst with rfl | rfl | rfl <;> (apply ByteArray.ext; decide +kernel)
          have hsl := fun wx => run_slice_string (P := Tryd.prog) (w := wx) 9 { data := #[45, 112, 97, 98] } .i64 .i64 x0 (x0 + 1) Tryd.underlying9 (by omega) (by omega) (by show x0 + 1 ≤ 4; omega)
          rw [hmk] at hsl
          have hc0 := fun wx => run_string_add_sum (P := Tryd.prog) (w := wx) S1 m (by omega)
          have hc1 := fun wx => run_string_add_sum (P := Tryd.prog) (w := wx) (S1 ++ m) ni (by rw [ByteArray.size_append]; omega)
          have hc2 := fun wx => run_string_add_sum (P := Tryd.prog) (w := wx) ((S1 ++ m) ++ ni) { data := #[58] } (by rw [ByteArray.size_append, ByteArray.size_append]; show _ + 1 ≤ _; omega)
          have hc3 := fun wx => run_string_add_sum (P := Tryd.prog) (w := wx) (((S1 ++ m) ++ ni) ++ { data := #[58] }) np (by rw [ByteArray.size_append, ByteArray.size_append, ByteArray.size_append]; show _ + 1 + _ ≤ _; omega)
          have HS2 : Hid ((((S1 ++ m) ++ ni) ++ ({ data := #[58] } : ByteArray)) ++ np = JT xs ((k0 + 1) + 1)) := Lib.hid (by rw [← HJ.out, HX.out (by omega), hm]; simp only [ByteArray.append_assoc]; rfl)
          have HZ2 : Hid (((((S1 ++ m) ++ ni) ++ ({ data := #[58] } : ByteArray)) ++ np).size ≤ 43 * ((k0 + 1) + 1)) := Lib.hid (by rw [ByteArray.size_append, ByteArray.size_append, ByteArray.size_append, ByteArray.size_append]; show _ + _ + _ + 1 + _ ≤ _; omega)
          have tx0 : decide (x0 > 0) = true := decide_eq_true (by omega)
          have hw0 : IntKind.i64.wrap (x0 + 1) = x0 + 1 := IntWalk.i64_in _ (by omega)
          clear hS1 HJ HX HX0 hm hms hmk hst zi zp zs1
          go_wp2_with fail
          go_big_quiet (first | (with_reducible exact cI _) | (with_reducible exact cP _))
          have hbn := Lib.hid (HBN.out nq)
          clear cI cP c0 c1 c2 hsl hc0 hc1 hc2 hc3 tx0 hw0
          go_wp2_with fail
          go_roundw
          case rel => exact ⟨(k0 + 1) + 1, _, by go_num, by omega, rfl, HZ2.out, HS2, hbn⟩
          case measure => simp [intOf] <;> omega
    · have hkn : k = 4 := by omega
      subst hkn
      have HS2 : Hid (txs xs = S) := Lib.hid (by rw [HS.out, jt_all HL.out])
      clear HS
      go_wp2_with fail
      go_ret
      exact ⟨by rw [HS2.out]; rfl, HB.out⟩
end Go.Proofs.YtadpjkghfgnbbaaDoor.L8
