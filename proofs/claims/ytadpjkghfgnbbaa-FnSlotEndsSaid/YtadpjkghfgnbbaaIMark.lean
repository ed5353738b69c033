/- What the laws' marks on slices of numbers answer: markIntS, heldIntS. -/
import Derived.Test.YtadpjkghfgnbbaaIntE
namespace Go.Proofs.Ytadpjkghfgnbbaa.Own
open Go.RowKit Go.Proofs.Ytadpjkghfgnbbaa.Mem
/-- n numbers from k0 on -/
def upFrom (k0 n : Nat) : List Int := (List.range n).map fun i => ((k0 + i : Nat) : Int)
theorem upFrom_len (k0 n : Nat) : (upFrom k0 n).length = n := by simp [upFrom]
theorem upFrom_at (k0 n i : Nat) (h : i < n) : (upFrom k0 n)[i]? = some (((k0 + i : Nat) : Int)) := by simp [upFrom, h]
set_option maxHeartbeats 1000000 in
theorem markIntS_any (A : Option Addr) (n c base k0 : Nat) (xs : List Value) (w : World) (hown : w.ownsRow base 3 1 (.slice A n c) n xs) (hn : n ≤ 1048576) (hk1 : k0 ≤ 4294967296) :
    Calls Try.prog 43 #[.slice A n c, .int .i64 k0] w fun e w' => e = .returned (.int .i64 (k0 + n)) ∧ w'.ownsRow base 3 1 (.slice A n c) n (I (upFrom k0 n)) ∧ w.grownBy w' (Value.slice A n c).ownBlock := by
  have HX := Lib.hid hown.1
  have HO := Lib.hid hown
  clear hown
  go_enter Try.func43, Try.ntmps43
  go_wp2
  go_loopw [1, 5] (fun k i wr => ∃ (q : Nat) (ys : List Value), i = .int .i64 q ∧ k = .int .i64 (k0 + q) ∧ q ≤ n ∧ Hid (ys.length = n) ∧ Hid (ys.take q = (I (upFrom k0 n)).take q) ∧ wr.ownsRow base 3 1 (.slice A n c) n ys ∧ w.grownBy wr (Value.slice A n c).ownBlock) (fun _ i _ => n - (intOf i).toNat)
  case atStart => exact ⟨0, xs, rfl, by go_num, Nat.zero_le _, Lib.hid (by have := HX.out; omega), Lib.hid (by simp), HO.out, World.grownBy.refl _ _⟩
  case round =>
    obtain ⟨q, ys, rfl, rfl, hq, HY, HT, hown, hgr⟩ := hrel
    by_cases hlt : q < n
    · obtain ⟨g, hA⟩ := own_head hown (by omega)
      subst hA
      have HU := Lib.hid (set_take (I (upFrom k0 n)) ys q (.int .i64 ((k0 : Int) + q)) (by rw [HY.out, I_len, upFrom_len]) (by rw [I_at (upFrom_at k0 n q hlt)]; push_cast; rfl) HT.out)
      have HY2 : Hid ((ys.set q (.int .i64 ((k0 : Int) + q))).length = n) := Lib.hid (by rw [List.length_set]; exact HY.out)
      have hst := hown.stored q (.int .i64 ((k0 : Int) + q))
      have hst1 := Lib.hid hst.1
      have hgr2 := grown_trans hgr hst.2
      have hfz := hown.frozenAt q
      obtain ⟨z, hz⟩ : ∃ z, wr.cell? ⟨g, q, none⟩ = some z := ⟨_, (hown.cellAt q (by omega)).trans (List.getElem?_eq_getElem (by rw [HY.out]; exact hlt))⟩
      clear hst hown hgr HT
      go_wp2
      go_roundw
      case rel => exact ⟨q + 1, _, by go_num, by go_num, by omega, HY2, HU, hst1.out, hgr2⟩
      case measure => simp [intOf]; omega
    · have hqn : q = n := by omega
      have hy : ys = I (upFrom k0 n) := by
        have h := HT.out
        rw [List.take_of_length_le (by rw [HY.out]; omega), List.take_of_length_le (by rw [I_len, upFrom_len]; omega)] at h
        exact h
      rw [hy] at hown
      clear hy HT
      subst hqn
      go_wp2
      go_ret
      exact ⟨rfl, hown, hgr⟩
set_option maxHeartbeats 1000000 in
theorem heldIntS_any (A : Option Addr) (n c B k0 : Nat) (w : World) (hr : Reads w B 1 A n (I (upFrom k0 n))) (hn : n ≤ 1048576) (hk1 : k0 ≤ 4294967296) :
    Calls Try.prog 44 #[.slice A n c, .int .i64 k0] w fun e w' => e = .returned (.int .i64 (k0 + n)) ∧ w' = w := by
  go_enter Try.func44, Try.ntmps44
  go_wp2
  go_loopw [1, 5] (fun k i wr => ∃ (q : Nat), i = .int .i64 q ∧ k = .int .i64 (k0 + q) ∧ q ≤ n ∧ wr = w) (fun _ i _ => n - (intOf i).toNat)
  case atStart => exact ⟨0, rfl, by go_num, Nat.zero_le _, rfl⟩
  case round =>
    obtain ⟨q, rfl, rfl, hq, rfl⟩ := hrel
    by_cases hlt : q < n
    · obtain ⟨b, off, u, rfl, _, hu, hc⟩ := hr.int_at hlt
      have hu2 : u = (k0 : Int) + q := by rw [upFrom_at k0 n q hlt] at hu; have := (Option.some.inj hu).symm; push_cast at this; exact this
      subst hu2
      clear hu
      go_wp2
      go_roundw
      case rel => exact ⟨q + 1, by go_num, by go_num, by omega, trivial⟩
      case measure => simp [intOf]; omega
    · have hqn : q = n := by omega
      subst hqn
      go_wp2
      go_ret
      exact ⟨rfl, rfl⟩
end Go.Proofs.Ytadpjkghfgnbbaa.Own
