/- What the laws do with slices of bools: copies, comparisons. -/
import Derived.Test.YtfdbnolifimnhaaBooD
import Derived.Test.YtfdbnolifimnhaaRow
import Derived.Test.YtfdbnolifimnhaaStepO
import Derived.Lib.QuietBelow
import Derived.Deep.QuietTactic
import Derived.BigQuiet
import Derived.Outline
namespace Go.Proofs.Ytfdbnolifimnhaa.Own
open Go.RowKit Go.Proofs.Ytfdbnolifimnhaa.Mem
set_option maxHeartbeats 1000000 in
theorem toBoolS_any (A : Option Addr) (n c B : Nat) (zs : List Bool) (w : World) (hr : Reads w B 1 A n (FL zs)) (hB : B ≤ w.heap.size) (hn : n ≤ 1048576) :
    Calls Try.prog 82 #[.slice A n c] w fun e w' => ∃ g, e = .returned (.slice (some ⟨g, 0, none⟩) n n) ∧ w'.ownsRow w.heap.size 4 1 (.slice (some ⟨g, 0, none⟩) n n) n (FL zs) ∧ Below w.heap.size w w' := by
  obtain ⟨i0, hi, hz0, hz1, hz2⟩ := info_parts boolInfo
  have HL := Lib.hid hr.len
  go_enter Try.func82, Try.ntmps82
  go_wp2_with (at_make; refine wpList_make_full _ rfl _ _ 67 rfl w.heap.size 4 i0 (.bool false) 1 Try.underlying67 hi hz0 hz1 .i64 .i64 _ _ n rfl rfl rfl rfl (by rw [hz2]; omega) (by unfold maxLen; omega) (Nat.le_refl _) ?_; intro w1 hown1 hg1)
  have hb1 : Below w.heap.size w w1 := (Below.refl _ _).grown hg1 (Nat.le_refl _) (by simp)
  have hr1 : Reads w1 B 1 A n (FL zs) := hr.keep fun p hp => hb1.cell (by omega)
  have hml : (madeCells (Value.bool false).cells (n * 1)).toList.length = n := by simp [madeCells]
  have HML := Lib.hid hml
  clear hr hml
  go_loopw [4] (fun i wr => ∃ (k : Nat) (ys : List Value), i = .int .i64 k ∧ k ≤ n ∧ Hid (ys.length = n) ∧ Hid (ys.take k = (FL zs).take k) ∧ wr.ownsRow w.heap.size 4 1 (.slice (some ⟨w.heap.size, 0, none⟩) n n) n ys ∧ Below w.heap.size w wr) (fun i _ => n - (intOf i).toNat)
  case atStart => exact ⟨0, _, rfl, Nat.zero_le _, HML, Lib.hid (by simp), hown1, hb1⟩
  case round =>
    clear hown1 hg1 HML
    obtain ⟨k, ys, rfl, hk, HY, HT, hown, hbel⟩ := hrel
    by_cases hlt : k < n
    · have hrr : Reads wr B 1 A n (FL zs) := hr1.keep fun p hp => by rw [hbel.cell (by omega), hb1.cell (by omega)]
      obtain ⟨b, off, x, rfl, hbB, hu, hc⟩ := bool_at hrr hlt
      have hst := Lib.hid (hown.stored k (.bool x)).1
      have hfz := hown.frozenAt k
      have hcell : ∃ z, wr.cell? ⟨w.heap.size, k, none⟩ = some z := ⟨_, (hown.cellAt k (by omega)).trans (List.getElem?_eq_getElem (by rw [HY.out]; exact hlt))⟩
      obtain ⟨z, hz⟩ := hcell
      have hbel2 : Below w.heap.size w (wr.setCell ⟨w.heap.size, k, none⟩ (.bool x)) := hbel.setCell (p := ⟨w.heap.size, k, none⟩) (Nat.le_refl _) _
      have HT2 := Lib.hid (set_take (FL zs) ys k (.bool x) (by rw [HY.out, HL.out]) (FLb_at hu) HT.out)
      have HY2 : Hid ((ys.set k (.bool x)).length = n) := Lib.hid (by rw [List.length_set]; exact HY.out)
      clear hrr hr1 hown hu HT HY
      go_wp2
      go_roundw
      case rel => exact ⟨k + 1, _, by go_num, by omega, HY2, HT2, hst.out, hbel2⟩
      case measure => simp [intOf]; omega
    · have hy : ys = FL zs := by
        have h := HT.out
        rw [List.take_of_length_le (by rw [HY.out]; omega), List.take_of_length_le (by rw [HL.out]; omega)] at h
        exact h
      rw [hy] at hown
      clear hy HT HY
      go_wp2
      go_ret
      exact ⟨_, rfl, hown, hbel⟩
set_option maxHeartbeats 1000000 in
theorem eqBoolS_step (A A' : Option Addr) (n c c' : Nat) (xs : List Bool) (w : World) (hn : n ≤ 1048576) (hx : Reads w w.heap.size 1 A n (FL xs)) (hy : Reads w w.heap.size 1 A' n (FL xs)) :
    Calls Try.prog 83 #[.slice A n c, .slice A' n c'] w fun e w' => e = .returned (.bool true) ∧ Below w.heap.size w w' := by
  go_enter Try.func83, Try.ntmps83
  go_wp2
  go_loopw [5] (fun i wr => ∃ (k j : Nat), i = .int .i64 k ∧ k ≤ n ∧ wr = w.drewN j) (fun i _ => n - (intOf i).toNat)
  case atStart => exact ⟨0, 0, rfl, Nat.zero_le _, rfl⟩
  case round =>
    obtain ⟨k, j, rfl, hk, rfl⟩ := hrel
    by_cases hlt : k < n
    · obtain ⟨b1, o1, x, rfl, _, hu, hc⟩ := bool_at hx hlt
      obtain ⟨b2, o2, y, rfl, _, hv, hc'⟩ := bool_at hy hlt
      obtain rfl : y = x := by rw [hu] at hv; exact (Option.some.inj hv).symm
      clear hu hv
      cases y <;>
      · go_wp2
        go_quiet (fail)
        go_wp2
        go_roundw
        case rel => exact ⟨k + 1, _, by go_num, by omega, rfl⟩
        case measure => simp [intOf]; omega
    · go_wp2
      go_ret
      exact ⟨rfl, below_drewN w j⟩
end Go.Proofs.Ytfdbnolifimnhaa.Own
