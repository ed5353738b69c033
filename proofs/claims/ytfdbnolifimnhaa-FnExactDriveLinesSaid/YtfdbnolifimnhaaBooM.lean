/- What the laws' marks on slices of bools do, and their looks at them. -/
import Derived.Test.YtfdbnolifimnhaaBoo
namespace Go.Proofs.Ytfdbnolifimnhaa.Own
open Go Go.RowKit Go.Proofs.Ytfdbnolifimnhaa.Mem
/-- n marked bools from k0 on -/
def upBoo (k0 n : Nat) : List Bool := (List.range n).map fun (i : Nat) => decide (((k0 : Int) + i) % 3 = 0)
theorem upBoo_len (k0 n : Nat) : (upBoo k0 n).length = n := by simp [upBoo]
theorem upBoo_at (k0 n i : Nat) (h : i < n) : (upBoo k0 n)[i]? = some (decide (((k0 : Int) + i) % 3 = 0)) := by simp [upBoo, h]
set_option maxRecDepth 100000 in
set_option maxHeartbeats 4000000 in
theorem markBoolS_step (A : Option Addr) (n c lo hi k0 : Nat) (K : Int) (hK : K = k0) (xs : List Value) (w : World) (hn : n ≤ 1048576) (hk1 : k0 ≤ 4294967296) (hown : Row w lo hi 4 1 (.slice A n c) n xs) :
    Calls Try.prog 85 #[.slice A n c, .int .i64 K] w fun e w' => e = .returned (.int .i64 (K + n)) ∧ Row w' lo hi 4 1 (.slice A n c) n (FL (upBoo k0 n)) ∧ Only lo hi w w' := by
  subst hK
  have HX := Lib.hid hown.own.1
  have HO := Lib.hid hown.own
  have HLT := Lib.hid hown
  clear hown
  go_enter Try.func85, Try.ntmps85
  go_wp2
  go_loopw [1, 5] (fun k i wr => ∃ (q : Nat) (ys : List Value), i = .int .i64 q ∧ k = .int .i64 (k0 + q) ∧ q ≤ n ∧ Hid (ys.length = n) ∧ Hid (ys.take q = (FL (upBoo k0 n)).take q) ∧ wr.ownsRow lo 4 1 (.slice A n c) n ys ∧ w.grownBy wr (Value.slice A n c).ownBlock) (fun _ i _ => n - (intOf i).toNat)
  case atStart => exact ⟨0, xs, rfl, by go_num, Nat.zero_le _, Lib.hid (by have := HX.out; omega), Lib.hid (by simp), HO.out, World.grownBy.refl _ _⟩
  case round =>
    obtain ⟨q, ys, rfl, rfl, hq, HY, HT, hown, hgr⟩ := hrel
    by_cases hlt : q < n
    · obtain ⟨g, hA⟩ := own_head hown (by omega)
      subst hA
      have HU := upBoo_at k0 n q hlt
      obtain ⟨bq0, hbq0⟩ : ∃ b, decide (((k0 : Int) + (q : Int)) % 3 = 0) = b := ⟨_, rfl⟩
      have hb10 : (((k0 : Int) + q) % 3 == 0) = bq0 := by rw [← hbq0, Bool.eq_iff_iff]; simp
      have hb20 : (((k0 : Int) + q).tmod 3 == 0) = bq0 := by rw [Int.tmod_eq_emod_of_nonneg (by omega)]; exact hb10
      rw [hbq0] at HU
      have HT2 : Hid ((ys.set q (.bool bq0)).take (q + 1) = (FL (upBoo k0 n)).take (q + 1)) := Lib.hid (set_take (FL (upBoo k0 n)) ys q (.bool bq0) (by rw [HY.out, FLb_len, upBoo_len]) (FLb_at HU) HT.out)
      have HY2 : Hid ((ys.set q (.bool bq0)).length = n) := Lib.hid (by rw [List.length_set]; exact HY.out)
      have hst := hown.stored q (.bool bq0)
      have hst1 := Lib.hid hst.1
      have hgr2 := grown_trans hgr hst.2
      have hfz := hown.frozenAt q
      obtain ⟨z, hz⟩ : ∃ z, wr.cell? ⟨g, q, none⟩ = some z := ⟨_, (hown.cellAt q (by omega)).trans (List.getElem?_eq_getElem (by rw [HY.out]; exact hlt))⟩
      clear hst hown hgr HT hbq0 HU
      go_wp2
      go_roundw
      case rel => exact ⟨q + 1, _, by go_num, by go_num, by omega, HY2, HT2, hst1.out, hgr2⟩
      case measure => simp [intOf]; omega
    · have hqn : q = n := by omega
      have hy : ys = FL (upBoo k0 n) := by
        have h := HT.out
        rw [List.take_of_length_le (by rw [HY.out]; omega), List.take_of_length_le (by rw [FLb_len, upBoo_len]; omega)] at h
        exact h
      rw [hy] at hown
      clear hy HT
      subst hqn
      go_wp2
      go_ret
      exact ⟨rfl, ⟨hown, HLT.out.lt⟩, Only.of_Row HLT.out hgr⟩
end Go.Proofs.Ytfdbnolifimnhaa.Own
