/- What the laws' copies and comparisons of slices of numbers answer. -/
import Derived.Test.YtaamjnpknmimmabRows
import Derived.Test.YtaamjnpknmimmabOwn
import Derived.Test.YtaamjnpknmimmabInf
import Derived.Test.YtaamjnpknmimmabL1Pure
import Derived.Deep.QuietTactic
import Derived.BigQuiet
import Derived.Outline
namespace Go.Proofs.Ytaamjnpknmimmab.Own
open Go.RowKit Go.Proofs.Ytaamjnpknmimmab.Mem
set_option maxHeartbeats 1000000 in
theorem toIntS_any (A : Option Addr) (n c B : Nat) (zs : List Int) (w : World) (hr : Reads w B 1 A n (I zs)) (hB : B ≤ w.heap.size) (hn : n ≤ 1048576) :
    Calls Try.prog 16 #[.slice A n c] w fun e w' => ∃ g, e = .returned (.slice (some ⟨g, 0, none⟩) n n) ∧ w'.ownsRow w.heap.size 3 1 (.slice (some ⟨g, 0, none⟩) n n) n (I zs) ∧ Below w.heap.size w w' := by
  obtain ⟨i0, hi, hz0, hz1, hz2⟩ := info_parts intInfo
  have HL := Lib.hid hr.len
  go_enter Try.func16, Try.ntmps16
  go_wp2_with (at_make; refine wpList_make_full _ rfl _ _ 22 rfl w.heap.size 3 i0 (.int .i64 0) 1 Try.underlying22 hi hz0 hz1 .i64 .i64 _ _ n rfl rfl rfl rfl (by rw [hz2]; omega) (by unfold maxLen; omega) (Nat.le_refl _) ?_; intro w1 hown1 hg1)
  have hb1 : Below w.heap.size w w1 := (Below.refl _ _).grown hg1 (Nat.le_refl _) (by simp)
  have hr1 : Reads w1 B 1 A n (I zs) := hr.keep fun p hp => hb1.cell (by omega)
  have hml : (madeCells (Value.int .i64 0).cells (n * 1)).toList.length = n := by simp [madeCells]
  have HML := Lib.hid hml
  clear hr hml
  go_loopw [4] (fun i wr => ∃ (k : Nat) (ys : List Value), i = .int .i64 k ∧ k ≤ n ∧ Hid (ys.length = n) ∧ Hid (ys.take k = (I zs).take k) ∧ wr.ownsRow w.heap.size 3 1 (.slice (some ⟨w.heap.size, 0, none⟩) n n) n ys ∧ Below w.heap.size w wr) (fun i _ => n - (intOf i).toNat)
  case atStart => exact ⟨0, _, rfl, Nat.zero_le _, HML, Lib.hid (by simp), hown1, hb1⟩
  case round =>
    clear hown1 hg1 HML
    obtain ⟨k, ys, rfl, hk, HY, HT, hown, hbel⟩ := hrel
    by_cases hlt : k < n
    · have hrr : Reads wr B 1 A n (I zs) := hr1.keep fun p hp => by rw [hbel.cell (by omega), hb1.cell (by omega)]
      obtain ⟨b, off, x, rfl, hbB, hu, hc⟩ := hrr.int_at hlt
      have hst := Lib.hid (hown.stored k (.int .i64 x)).1
      have hfz := hown.frozenAt k
      have hcell : ∃ z, wr.cell? ⟨w.heap.size, k, none⟩ = some z := ⟨_, (hown.cellAt k (by omega)).trans (List.getElem?_eq_getElem (by rw [HY.out]; exact hlt))⟩
      obtain ⟨z, hz⟩ := hcell
      have hbel2 : Below w.heap.size w (wr.setCell ⟨w.heap.size, k, none⟩ (.int .i64 x)) := hbel.setCell (p := ⟨w.heap.size, k, none⟩) (Nat.le_refl _) _
      have HT2 := Lib.hid (set_take (I zs) ys k (.int .i64 x) (by rw [HY.out, HL.out]) (I_at hu) HT.out)
      have HY2 : Hid ((ys.set k (.int .i64 x)).length = n) := Lib.hid (by rw [List.length_set]; exact HY.out)
      clear hrr hr1 hown hu HT HY
      go_wp2
      go_roundw
      case rel => exact ⟨k + 1, _, by go_num, by omega, HY2, HT2, hst.out, hbel2⟩
      case measure => simp [intOf]; omega
    · have hy : ys = I zs := by
        have h := HT.out
        rw [List.take_of_length_le (by rw [HY.out]; omega), List.take_of_length_le (by rw [HL.out]; omega)] at h
        exact h
      rw [hy] at hown
      clear hy HT HY
      go_wp2
      go_ret
      exact ⟨_, rfl, hown, hbel⟩
set_option maxHeartbeats 1000000 in
theorem eqIntS_any (A A' : Option Addr) (n c n' c' B : Nat) (xs ys : List Int) (w : World) (hx : Reads w B 1 A n (I xs)) (hy : Reads w B 1 A' n' (I ys)) (hn : n ≤ 9223372036854775807) (hn' : n' ≤ 9223372036854775807) (b : Bool) (hb : decide (xs = ys) = b) :
    Calls Try.prog 18 #[.slice A n c, .slice A' n' c'] w fun e w' => e = .returned (.bool b) ∧ ∃ j, w' = w.drewN j := by
  have HX : Hid (xs.length = n) := Lib.hid (by have := hx.len; simpa [I] using this)
  have HY : Hid (ys.length = n') := Lib.hid (by have := hy.len; simpa [I] using this)
  have HB := Lib.hid hb
  clear hb
  by_cases hnn : n = n'
  · subst hnn
    go_enter Try.func18, Try.ntmps18
    go_wp2
    go_loopw [5] (fun i wr => ∃ (k j : Nat), i = .int .i64 k ∧ k ≤ n ∧ Hid (xs.take k = ys.take k) ∧ wr = w.drewN j) (fun i _ => n - (intOf i).toNat)
    case atStart => exact ⟨0, 0, rfl, Nat.zero_le _, Lib.hid (by simp), rfl⟩
    case round =>
      obtain ⟨k, j, rfl, hk, HT, rfl⟩ := hrel
      by_cases hlt : k < n
      · obtain ⟨b1, o1, x, rfl, _, hu, hc⟩ := hx.int_at hlt
        obtain ⟨b2, o2, y, rfl, _, hv, hc'⟩ := hy.int_at hlt
        by_cases he : x = y
        · subst he
          have HT2 := Lib.hid (take_eq_succ HT.out hu hv)
          clear hu hv HT
          go_wp2
          go_quiet (fail)
          go_wp2
          go_roundw
          case rel => exact ⟨k + 1, _, by go_num, by omega, HT2, rfl⟩
          case measure => simp [intOf]; omega
        · have hne : b = false := by
            rw [← HB.out]
            simp only [decide_eq_false_iff_not]
            intro e
            rw [e, hv] at hu
            exact he (Option.some.inj hu).symm
          have HN := Lib.hid hne
          have t1 : (x == y) = false := by simpa using he
          clear hu hv hne HT
          go_wp2
          go_quiet (fail)
          go_wp2
          go_ret
          rw [HN.out]
          exact ⟨rfl, j + nq, by rw [World.drewN_drewN]⟩
      · have hbt : b = true := by
          rw [← HB.out]
          have h := HT.out
          rw [List.take_of_length_le (by rw [HX.out]; omega), List.take_of_length_le (by rw [HY.out]; omega)] at h
          simpa using h
        have HN := Lib.hid hbt
        clear hbt HT
        go_wp2
        go_ret
        rw [HN.out]
        exact ⟨rfl, _, rfl⟩
  · have hne : b = false := by
      rw [← HB.out]
      simp only [decide_eq_false_iff_not]
      intro e
      rw [e, HY.out] at HX
      exact hnn HX.out.symm
    have HN := Lib.hid hne
    have t2 : ((n : Int) == n') = false := by simp; omega
    clear hne
    go_enter Try.func18, Try.ntmps18
    go_wp2
    go_ret
    rw [HN.out]
    exact ⟨rfl, 0, rfl⟩
end Go.Proofs.Ytaamjnpknmimmab.Own
