/- What the laws' marks on slices of Line do. -/
import Derived.Test.YtfdbnolifimnhabLinL
import Derived.Test.YtfdbnolifimnhabRow
namespace Go.Proofs.Ytfdbnolifimnhab.L7
open Go Go.RowKit Go.Proofs.Ytfdbnolifimnhab.Mem Go.Proofs.Ytfdbnolifimnhab.Own
/-- n marked elements from k0 on -/
def upLin (k0 n : Nat) : List Lin := (List.range n).map fun (i : Nat) => ⟨(k0 : Int) + 4 * (i : Int), (k0 : Int) + 4 * (i : Int) + 1, decide (((k0 : Int) + 4 * (i : Int) + 1 + 1) % 3 = 0), decide (((k0 : Int) + 4 * (i : Int) + 1 + 1 + 1) % 3 = 0)⟩
theorem upLin_len (k0 n : Nat) : (upLin k0 n).length = n := by simp [upLin]
theorem upLin_at (k0 n i : Nat) (h : i < n) : (upLin k0 n)[i]? = some ⟨(k0 : Int) + 4 * (i : Int), (k0 : Int) + 4 * (i : Int) + 1, decide (((k0 : Int) + 4 * (i : Int) + 1 + 1) % 3 = 0), decide (((k0 : Int) + 4 * (i : Int) + 1 + 1 + 1) % 3 = 0)⟩ := by simp [upLin, h]
set_option maxRecDepth 100000 in
set_option maxHeartbeats 4000000 in
theorem markLineS_step (A : Option Addr) (n c lo hi k0 : Nat) (K : Int) (hK : K = k0) (xs : List Value) (w : World) (hn : n ≤ 1048576) (hk1 : k0 ≤ 4294967296) (hown : Row w lo hi 37 4 (.slice A n c) n xs) :
    Calls Try.prog 11 #[.slice A n c, .int .i64 K] w fun e w' => e = .returned (.int .i64 (K + 4 * n)) ∧ Row w' lo hi 37 4 (.slice A n c) n (FL (upLin k0 n)) ∧ Only lo hi w w' := by
  subst hK
  have HX := Lib.hid hown.own.1
  have HO := Lib.hid hown.own
  have HLT := Lib.hid hown
  clear hown
  go_enter Try.func11, Try.ntmps11
  go_wp2
  go_loopw [1, 5] (fun k i wr => ∃ (q : Nat) (ys : List Value), i = .int .i64 q ∧ k = .int .i64 (k0 + 4 * q) ∧ q ≤ n ∧ Hid (ys.length = n * 4) ∧ Hid (ys.take (q * 4) = (FL (upLin k0 n)).take (q * 4)) ∧ wr.ownsRow lo 37 4 (.slice A n c) n ys ∧ w.grownBy wr (Value.slice A n c).ownBlock) (fun _ i _ => n - (intOf i).toNat)
  case atStart => exact ⟨0, xs, rfl, by go_num, Nat.zero_le _, Lib.hid HX.out, Lib.hid (by simp), HO.out, World.grownBy.refl _ _⟩
  case round =>
    obtain ⟨q, ys, rfl, rfl, hq, HY, HT, hown, hgr⟩ := hrel
    by_cases hlt : q < n
    · obtain ⟨g, hA⟩ := own_head hown (by omega)
      subst hA
      have HU := upLin_at k0 n q hlt
      obtain ⟨bq2, hbq2⟩ : ∃ b, decide (((k0 : Int) + 4 * (q : Int) + 1 + 1) % 3 = 0) = b := ⟨_, rfl⟩
      have hb12 : (((k0 : Int) + 4 * q + 1 + 1) % 3 == 0) = bq2 := by rw [← hbq2, Bool.eq_iff_iff]; simp
      have hb22 : (((k0 : Int) + 4 * q + 1 + 1).tmod 3 == 0) = bq2 := by rw [Int.tmod_eq_emod_of_nonneg (by omega)]; exact hb12
      obtain ⟨bq3, hbq3⟩ : ∃ b, decide (((k0 : Int) + 4 * (q : Int) + 1 + 1 + 1) % 3 = 0) = b := ⟨_, rfl⟩
      have hb13 : (((k0 : Int) + 4 * q + 1 + 1 + 1) % 3 == 0) = bq3 := by rw [← hbq3, Bool.eq_iff_iff]; simp
      have hb23 : (((k0 : Int) + 4 * q + 1 + 1 + 1).tmod 3 == 0) = bq3 := by rw [Int.tmod_eq_emod_of_nonneg (by omega)]; exact hb13
      rw [hbq2] at HU
      rw [hbq3] at HU
      have HT2 : Hid ((((((ys.set (q * 4) (.int .i64 ((k0 : Int) + 4 * q))).set (q * 4 + 1) (.int .i64 ((k0 : Int) + 4 * q + 1))).set (q * 4 + 2) (.bool bq2)).set (q * 4 + 3) (.bool bq3))).take ((q + 1) * 4) = (FL (upLin k0 n)).take ((q + 1) * 4)) := Lib.hid (set_lin (by rw [HY.out, upLin_len]) HU HT.out)
      have HO2 := Lib.hid hown
      have f0 := HO2.out.frozenAt (q * 4)
      have f1 := HO2.out.frozenAt (q * 4 + 1)
      have f2 := HO2.out.frozenAt (q * 4 + 2)
      have f3 := HO2.out.frozenAt (q * 4 + 3)
      obtain ⟨y0, d0⟩ : ∃ z, wr.cell? ⟨g, q * 4, none⟩ = some z := ⟨_, (HO2.out.cellAt (q * 4) (by omega)).trans (List.getElem?_eq_getElem (by rw [HY.out]; omega))⟩
      obtain ⟨y1, d1⟩ : ∃ z, wr.cell? ⟨g, q * 4 + 1, none⟩ = some z := ⟨_, (HO2.out.cellAt (q * 4 + 1) (by omega)).trans (List.getElem?_eq_getElem (by rw [HY.out]; omega))⟩
      obtain ⟨y2, d2⟩ : ∃ z, wr.cell? ⟨g, q * 4 + 2, none⟩ = some z := ⟨_, (HO2.out.cellAt (q * 4 + 2) (by omega)).trans (List.getElem?_eq_getElem (by rw [HY.out]; omega))⟩
      obtain ⟨y3, d3⟩ : ∃ z, wr.cell? ⟨g, q * 4 + 3, none⟩ = some z := ⟨_, (HO2.out.cellAt (q * 4 + 3) (by omega)).trans (List.getElem?_eq_getElem (by rw [HY.out]; omega))⟩
      have s0 := HO2.out.stored (q * 4) (.int .i64 ((k0 : Int) + 4 * q))
      have s1 := s0.1.stored (q * 4 + 1) (.int .i64 ((k0 : Int) + 4 * q + 1))
      have s2 := s1.1.stored (q * 4 + 2) (.bool bq2)
      have s3 := s2.1.stored (q * 4 + 3) (.bool bq3)
      have HS := Lib.hid s3.1
      have HG := Lib.hid (grown_trans (grown_trans (grown_trans (grown_trans hgr s0.2) s1.2) s2.2) s3.2)
      have HY2 : Hid ((((((ys.set (q * 4) (.int .i64 ((k0 : Int) + 4 * q))).set (q * 4 + 1) (.int .i64 ((k0 : Int) + 4 * q + 1))).set (q * 4 + 2) (.bool bq2)).set (q * 4 + 3) (.bool bq3))).length = n * 4) := Lib.hid (by simp only [List.length_set]; exact HY.out)
      clear s0 s1 s2 s3 hown hgr HO2 hbq2 hbq3 HU HT
      go_wp2
      go_roundw
      case rel => exact ⟨q + 1, _, by go_num, by go_num, by omega, HY2, HT2, HS.out, HG.out⟩
      case measure => simp [intOf]; omega
    · have hqn : q = n := by omega
      have hy : ys = FL (upLin k0 n) := by
        have h := HT.out
        rw [List.take_of_length_le (by rw [HY.out]; omega), List.take_of_length_le (by rw [FL_len, upLin_len, hqn]; exact Nat.le_refl _)] at h
        exact h
      rw [hy] at hown
      clear hy HT
      subst hqn
      go_wp2
      go_ret
      exact ⟨rfl, ⟨hown, HLT.out.lt⟩, Only.of_Row HLT.out hgr⟩
end Go.Proofs.Ytfdbnolifimnhab.L7
