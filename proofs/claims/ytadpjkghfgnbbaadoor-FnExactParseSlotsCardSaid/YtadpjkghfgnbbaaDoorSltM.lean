/- What the laws' marks on slices of Slot do. -/
import Derived.Test.YtadpjkghfgnbbaaDoorSltL
import Derived.Test.YtadpjkghfgnbbaaDoorRow
namespace Go.Proofs.YtadpjkghfgnbbaaDoor.L8
open Go Go.RowKit Go.Proofs.YtadpjkghfgnbbaaDoor.Mem Go.Proofs.YtadpjkghfgnbbaaDoor.Own
/-- n marked elements from k0 on -/
def upSlt (k0 n : Nat) : List Slt := (List.range n).map fun (i : Nat) => ⟨(k0 : Int) + 3 * (i : Int), (k0 : Int) + 3 * (i : Int) + 1, (k0 : Int) + 3 * (i : Int) + 1 + 1⟩
theorem upSlt_len (k0 n : Nat) : (upSlt k0 n).length = n := by simp [upSlt]
theorem upSlt_at (k0 n i : Nat) (h : i < n) : (upSlt k0 n)[i]? = some ⟨(k0 : Int) + 3 * (i : Int), (k0 : Int) + 3 * (i : Int) + 1, (k0 : Int) + 3 * (i : Int) + 1 + 1⟩ := by simp [upSlt, h]
set_option maxRecDepth 100000 in
set_option maxHeartbeats 4000000 in
theorem markSlotS_step {t : TypeId} (A : Option Addr) (n c lo hi k0 : Nat) (K : Int) (hK : K = k0) (xs : List Value) (w : World) (hn : n ≤ 1048576) (hk1 : k0 ≤ 4294967296) (hown : Row w lo hi t 3 (.slice A n c) n xs) :
    Calls Tryd.prog 12 #[.slice A n c, .int .i64 K] w fun e w' => e = .returned (.int .i64 (K + 3 * n)) ∧ Row w' lo hi t 3 (.slice A n c) n (FL (upSlt k0 n)) ∧ Only lo hi w w' := by
  subst hK
  have HX := Lib.hid hown.own.1
  have HO := Lib.hid hown.own
  have HLT := Lib.hid hown
  clear hown
  go_enter Tryd.func12, Tryd.ntmps12
  go_wp2
  go_loopw [1, 5] (fun k i wr => ∃ (q : Nat) (ys : List Value), i = .int .i64 q ∧ k = .int .i64 (k0 + 3 * q) ∧ q ≤ n ∧ Hid (ys.length = n * 3) ∧ Hid (ys.take (q * 3) = (FL (upSlt k0 n)).take (q * 3)) ∧ wr.ownsRow lo t 3 (.slice A n c) n ys ∧ w.grownBy wr (Value.slice A n c).ownBlock) (fun _ i _ => n - (intOf i).toNat)
  case atStart => exact ⟨0, xs, rfl, by go_num, Nat.zero_le _, Lib.hid HX.out, Lib.hid (by simp), HO.out, World.grownBy.refl _ _⟩
  case round =>
    obtain ⟨q, ys, rfl, rfl, hq, HY, HT, hown, hgr⟩ := hrel
    by_cases hlt : q < n
    · obtain ⟨g, hA⟩ := own_head hown (by omega)
      subst hA
      have HU := upSlt_at k0 n q hlt

      have HT2 : Hid (((((ys.set (q * 3) (.int .i64 ((k0 : Int) + 3 * q))).set (q * 3 + 1) (.int .i64 ((k0 : Int) + 3 * q + 1))).set (q * 3 + 2) (.int .i64 ((k0 : Int) + 3 * q + 1 + 1)))).take ((q + 1) * 3) = (FL (upSlt k0 n)).take ((q + 1) * 3)) := Lib.hid (set_slt (by rw [HY.out, upSlt_len]) HU HT.out)
      have HO2 := Lib.hid hown
      have f0 := HO2.out.frozenAt (q * 3)
      have f1 := HO2.out.frozenAt (q * 3 + 1)
      have f2 := HO2.out.frozenAt (q * 3 + 2)
      obtain ⟨y0, d0⟩ : ∃ z, wr.cell? ⟨g, q * 3, none⟩ = some z := ⟨_, (HO2.out.cellAt (q * 3) (by omega)).trans (List.getElem?_eq_getElem (by rw [HY.out]; omega))⟩
      obtain ⟨y1, d1⟩ : ∃ z, wr.cell? ⟨g, q * 3 + 1, none⟩ = some z := ⟨_, (HO2.out.cellAt (q * 3 + 1) (by omega)).trans (List.getElem?_eq_getElem (by rw [HY.out]; omega))⟩
      obtain ⟨y2, d2⟩ : ∃ z, wr.cell? ⟨g, q * 3 + 2, none⟩ = some z := ⟨_, (HO2.out.cellAt (q * 3 + 2) (by omega)).trans (List.getElem?_eq_getElem (by rw [HY.out]; omega))⟩
      have s0 := HO2.out.stored (q * 3) (.int .i64 ((k0 : Int) + 3 * q))
      have s1 := s0.1.stored (q * 3 + 1) (.int .i64 ((k0 : Int) + 3 * q + 1))
      have s2 := s1.1.stored (q * 3 + 2) (.int .i64 ((k0 : Int) + 3 * q + 1 + 1))
      have HS := Lib.hid s2.1
      have HG := Lib.hid (grown_trans (grown_trans (grown_trans hgr s0.2) s1.2) s2.2)
      have HY2 : Hid (((((ys.set (q * 3) (.int .i64 ((k0 : Int) + 3 * q))).set (q * 3 + 1) (.int .i64 ((k0 : Int) + 3 * q + 1))).set (q * 3 + 2) (.int .i64 ((k0 : Int) + 3 * q + 1 + 1)))).length = n * 3) := Lib.hid (by simp only [List.length_set]; exact HY.out)
      clear s0 s1 s2 hown hgr HO2  HU HT
      go_wp2
      go_roundw
      case rel => exact ⟨q + 1, _, by go_num, by go_num, by omega, HY2, HT2, HS.out, HG.out⟩
      case measure => simp [intOf]; omega
    · have hqn : q = n := by omega
      have hy : ys = FL (upSlt k0 n) := by
        have h := HT.out
        rw [List.take_of_length_le (by rw [HY.out]; omega), List.take_of_length_le (by rw [FL_len, upSlt_len, hqn]; exact Nat.le_refl _)] at h
        exact h
      rw [hy] at hown
      clear hy HT
      subst hqn
      go_wp2
      go_ret
      exact ⟨rfl, ⟨hown, HLT.out.lt⟩, Only.of_Row HLT.out hgr⟩
end Go.Proofs.YtadpjkghfgnbbaaDoor.L8
