/- What the laws' marks on slices of Irq do. -/
import Derived.Test.YtclnhdjnmfkeaaaIrqL
import Derived.Test.YtclnhdjnmfkeaaaRow
namespace Go.Proofs.Ytclnhdjnmfkeaaa.L6
open Go Go.RowKit Go.Proofs.Ytclnhdjnmfkeaaa.Mem Go.Proofs.Ytclnhdjnmfkeaaa.Own
/-- n marked elements from k0 on -/
def upIrq (k0 n : Nat) : List Irq := (List.range n).map fun (i : Nat) => ⟨decide (((k0 : Int) + 5 * (i : Int)) % 3 = 0), decide (((k0 : Int) + 5 * (i : Int) + 1) % 3 = 0), decide (((k0 : Int) + 5 * (i : Int) + 1 + 1) % 3 = 0), (k0 : Int) + 5 * (i : Int) + 1 + 1 + 1, (k0 : Int) + 5 * (i : Int) + 1 + 1 + 1 + 1⟩
theorem upIrq_len (k0 n : Nat) : (upIrq k0 n).length = n := by simp [upIrq]
theorem upIrq_at (k0 n i : Nat) (h : i < n) : (upIrq k0 n)[i]? = some ⟨decide (((k0 : Int) + 5 * (i : Int)) % 3 = 0), decide (((k0 : Int) + 5 * (i : Int) + 1) % 3 = 0), decide (((k0 : Int) + 5 * (i : Int) + 1 + 1) % 3 = 0), (k0 : Int) + 5 * (i : Int) + 1 + 1 + 1, (k0 : Int) + 5 * (i : Int) + 1 + 1 + 1 + 1⟩ := by simp [upIrq, h]
set_option maxRecDepth 100000 in
set_option maxHeartbeats 4000000 in
theorem markIrqS_step (A : Option Addr) (n c lo hi k0 : Nat) (K : Int) (hK : K = k0) (xs : List Value) (w : World) (hn : n ≤ 1048576) (hk1 : k0 ≤ 4294967296) (hown : Row w lo hi 53 5 (.slice A n c) n xs) :
    Calls Try.prog 22 #[.slice A n c, .int .i64 K] w fun e w' => e = .returned (.int .i64 (K + 5 * n)) ∧ Row w' lo hi 53 5 (.slice A n c) n (FL (upIrq k0 n)) ∧ Only lo hi w w' := by
  subst hK
  have HX := Lib.hid hown.own.1
  have HO := Lib.hid hown.own
  have HLT := Lib.hid hown
  clear hown
  go_enter Try.func22, Try.ntmps22
  go_wp2
  go_loopw [1, 5] (fun k i wr => ∃ (q : Nat) (ys : List Value), i = .int .i64 q ∧ k = .int .i64 (k0 + 5 * q) ∧ q ≤ n ∧ Hid (ys.length = n * 5) ∧ Hid (ys.take (q * 5) = (FL (upIrq k0 n)).take (q * 5)) ∧ wr.ownsRow lo 53 5 (.slice A n c) n ys ∧ w.grownBy wr (Value.slice A n c).ownBlock) (fun _ i _ => n - (intOf i).toNat)
  case atStart => exact ⟨0, xs, rfl, by go_num, Nat.zero_le _, Lib.hid HX.out, Lib.hid (by simp), HO.out, World.grownBy.refl _ _⟩
  case round =>
    obtain ⟨q, ys, rfl, rfl, hq, HY, HT, hown, hgr⟩ := hrel
    by_cases hlt : q < n
    · obtain ⟨g, hA⟩ := own_head hown (by omega)
      subst hA
      have HU := upIrq_at k0 n q hlt
      obtain ⟨bq0, hbq0⟩ : ∃ b, decide (((k0 : Int) + 5 * (q : Int)) % 3 = 0) = b := ⟨_, rfl⟩
      have hb10 : (((k0 : Int) + 5 * q) % 3 == 0) = bq0 := by rw [← hbq0, Bool.eq_iff_iff]; simp
      have hb20 : (((k0 : Int) + 5 * q).tmod 3 == 0) = bq0 := by rw [Int.tmod_eq_emod_of_nonneg (by omega)]; exact hb10
      obtain ⟨bq1, hbq1⟩ : ∃ b, decide (((k0 : Int) + 5 * (q : Int) + 1) % 3 = 0) = b := ⟨_, rfl⟩
      have hb11 : (((k0 : Int) + 5 * q + 1) % 3 == 0) = bq1 := by rw [← hbq1, Bool.eq_iff_iff]; simp
      have hb21 : (((k0 : Int) + 5 * q + 1).tmod 3 == 0) = bq1 := by rw [Int.tmod_eq_emod_of_nonneg (by omega)]; exact hb11
      obtain ⟨bq2, hbq2⟩ : ∃ b, decide (((k0 : Int) + 5 * (q : Int) + 1 + 1) % 3 = 0) = b := ⟨_, rfl⟩
      have hb12 : (((k0 : Int) + 5 * q + 1 + 1) % 3 == 0) = bq2 := by rw [← hbq2, Bool.eq_iff_iff]; simp
      have hb22 : (((k0 : Int) + 5 * q + 1 + 1).tmod 3 == 0) = bq2 := by rw [Int.tmod_eq_emod_of_nonneg (by omega)]; exact hb12
      rw [hbq0] at HU
      rw [hbq1] at HU
      rw [hbq2] at HU
      have HT2 : Hid (((((((ys.set (q * 5) (.bool bq0)).set (q * 5 + 1) (.bool bq1)).set (q * 5 + 2) (.bool bq2)).set (q * 5 + 3) (.int .i64 ((k0 : Int) + 5 * q + 1 + 1 + 1))).set (q * 5 + 4) (.int .i64 ((k0 : Int) + 5 * q + 1 + 1 + 1 + 1)))).take ((q + 1) * 5) = (FL (upIrq k0 n)).take ((q + 1) * 5)) := Lib.hid (set_irq (by rw [HY.out, upIrq_len]) HU HT.out)
      have HO2 := Lib.hid hown
      have f0 := HO2.out.frozenAt (q * 5)
      have f1 := HO2.out.frozenAt (q * 5 + 1)
      have f2 := HO2.out.frozenAt (q * 5 + 2)
      have f3 := HO2.out.frozenAt (q * 5 + 3)
      have f4 := HO2.out.frozenAt (q * 5 + 4)
      obtain ⟨y0, d0⟩ : ∃ z, wr.cell? ⟨g, q * 5, none⟩ = some z := ⟨_, (HO2.out.cellAt (q * 5) (by omega)).trans (List.getElem?_eq_getElem (by rw [HY.out]; omega))⟩
      obtain ⟨y1, d1⟩ : ∃ z, wr.cell? ⟨g, q * 5 + 1, none⟩ = some z := ⟨_, (HO2.out.cellAt (q * 5 + 1) (by omega)).trans (List.getElem?_eq_getElem (by rw [HY.out]; omega))⟩
      obtain ⟨y2, d2⟩ : ∃ z, wr.cell? ⟨g, q * 5 + 2, none⟩ = some z := ⟨_, (HO2.out.cellAt (q * 5 + 2) (by omega)).trans (List.getElem?_eq_getElem (by rw [HY.out]; omega))⟩
      obtain ⟨y3, d3⟩ : ∃ z, wr.cell? ⟨g, q * 5 + 3, none⟩ = some z := ⟨_, (HO2.out.cellAt (q * 5 + 3) (by omega)).trans (List.getElem?_eq_getElem (by rw [HY.out]; omega))⟩
      obtain ⟨y4, d4⟩ : ∃ z, wr.cell? ⟨g, q * 5 + 4, none⟩ = some z := ⟨_, (HO2.out.cellAt (q * 5 + 4) (by omega)).trans (List.getElem?_eq_getElem (by rw [HY.out]; omega))⟩
      have s0 := HO2.out.stored (q * 5) (.bool bq0)
      have s1 := s0.1.stored (q * 5 + 1) (.bool bq1)
      have s2 := s1.1.stored (q * 5 + 2) (.bool bq2)
      have s3 := s2.1.stored (q * 5 + 3) (.int .i64 ((k0 : Int) + 5 * q + 1 + 1 + 1))
      have s4 := s3.1.stored (q * 5 + 4) (.int .i64 ((k0 : Int) + 5 * q + 1 + 1 + 1 + 1))
      have HS := Lib.hid s4.1
      have HG := Lib.hid (grown_trans (grown_trans (grown_trans (grown_trans (grown_trans hgr s0.2) s1.2) s2.2) s3.2) s4.2)
      have HY2 : Hid (((((((ys.set (q * 5) (.bool bq0)).set (q * 5 + 1) (.bool bq1)).set (q * 5 + 2) (.bool bq2)).set (q * 5 + 3) (.int .i64 ((k0 : Int) + 5 * q + 1 + 1 + 1))).set (q * 5 + 4) (.int .i64 ((k0 : Int) + 5 * q + 1 + 1 + 1 + 1)))).length = n * 5) := Lib.hid (by simp only [List.length_set]; exact HY.out)
      clear s0 s1 s2 s3 s4 hown hgr HO2 hbq0 hbq1 hbq2 HU HT
      go_wp2
      go_roundw
      case rel => exact ⟨q + 1, _, by go_num, by go_num, by omega, HY2, HT2, HS.out, HG.out⟩
      case measure => simp [intOf]; omega
    · have hqn : q = n := by omega
      have hy : ys = FL (upIrq k0 n) := by
        have h := HT.out
        rw [List.take_of_length_le (by rw [HY.out]; omega), List.take_of_length_le (by rw [FL_len, upIrq_len, hqn]; exact Nat.le_refl _)] at h
        exact h
      rw [hy] at hown
      clear hy HT
      subst hqn
      go_wp2
      go_ret
      exact ⟨rfl, ⟨hown, HLT.out.lt⟩, Only.of_Row HLT.out hgr⟩
end Go.Proofs.Ytclnhdjnmfkeaaa.L6
