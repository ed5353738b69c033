/- What spec.l7One and spec.l7Good answer. -/
import Derived.Test.YtfdbnolifimnhaaLnA
import Derived.Test.YtfdbnolifimnhaaLinA
import Derived.Test.YtfdbnolifimnhaaIq6
import Derived.Test.YtfdbnolifimnhaaBR
import Derived.Deep.Cut
namespace Go.Proofs.Ytfdbnolifimnhaa.L7
open Go Go.RowKit Go.Proofs.Ytfdbnolifimnhaa.Mem Go.Proofs.Ytfdbnolifimnhaa.Own Go.Proofs.Ytfdbnolifimnhaa.L6
set_option maxRecDepth 100000 in
set_option maxHeartbeats 2000000 in
theorem l7One_c (k i : Int) (h r : Bool) (b : Bool) (hb : decide (Ok ⟨k, i, h, r⟩) = b) (w : World) :
    Calls Try.prog 133 #[.agg #[.int .i64 k, .int .i64 i, .bool h, .bool r]] w fun e w' => e = .returned (.bool b) ∧ Below w.heap.size w w' := by
  obtain ⟨b0, hb0⟩ : ∃ q, decide (0 ≤ k ∧ k ≤ 1) = q := ⟨_, rfl⟩
  obtain ⟨b1, hb1⟩ : ∃ q, decide (0 ≤ i ∧ i < 8) = q := ⟨_, rfl⟩
  by_cases h0 : k = 0
  · subst h0
    rw [ok_0, hb1] at hb
    subst hb
    have e0 : b0 = true := by rw [← hb0]; rfl
    subst e0
    cases b1
    all_goals
      go_enter Try.func133, Try.ntmps133
      go_wp2_with fail
      refine (l1In_any _ 0 1 _ hb0 _).mono ?_
      rintro e w1 ⟨rfl, rfl⟩
      go_wp2_with fail
      refine (l6Irq_any _ _ hb1 _).mono ?_
      rintro e w2 ⟨rfl, rfl⟩
      go_wp2_with fail
      go_ret
      exact ⟨rfl, below_more (Below.refl _ _) _⟩
  by_cases h1 : k = 1
  · subst h1
    rw [ok_1, hb1] at hb
    have e0 : b0 = true := by rw [← hb0]; rfl
    subst e0
    clear h0
    cases b1 <;> cases h <;> cases r
    all_goals
      subst hb
      go_enter Try.func133, Try.ntmps133
      go_wp2_with fail
      refine (l1In_any _ 0 1 _ hb0 _).mono ?_
      rintro e w1 ⟨rfl, rfl⟩
      go_wp2_with fail
      refine (l6Irq_any _ _ hb1 _).mono ?_
      rintro e w2 ⟨rfl, rfl⟩
      go_wp2_with fail
      go_ret
      exact ⟨rfl, below_more (Below.refl _ _) _⟩
  rw [ok_no i h r h0 h1] at hb
  subst hb
  have e0 : b0 = false := by rw [← hb0]; exact decide_eq_false (by omega)
  subst e0
  go_enter Try.func133, Try.ntmps133
  go_wp2_with fail
  refine (l1In_any _ 0 1 _ hb0 _).mono ?_
  rintro e w1 ⟨rfl, rfl⟩
  go_wp2_with fail
  go_ret
  exact ⟨rfl, below_more (Below.refl _ _) _⟩
set_option maxRecDepth 100000 in
set_option maxHeartbeats 2000000 in
theorem l7Good_any (A : Option Addr) (n c B : Nat) (xs : List Lin) (w : World) (hr : Reads w B 4 A n (FL xs)) (hB : B ≤ w.heap.size) (hn : n ≤ 1048576) (b : Bool) (h : decide (OkL xs) = b) :
    Calls Try.prog 140 #[.slice A n c] w fun e w' => e = .returned (.bool b) ∧ Below w.heap.size w w' := by
  have HL : Hid (xs.length = n) := Lib.hid (reads_len hr)
  have HB := Lib.hid h
  clear h
  go_enter Try.func140, Try.ntmps140
  go_wp2_with fail
  go_loopw [3] (fun i wr => ∃ (k : Nat), i = .int .i64 k ∧ k ≤ n ∧ Hid (∀ t ∈ xs.take k, Ok t) ∧ Below w.heap.size w wr) (fun i _ => n - (intOf i).toNat)
  case atStart => exact ⟨0, rfl, Nat.zero_le _, Lib.hid (by simp), Below.refl _ _⟩
  case round =>
    obtain ⟨k, rfl, hk, HK, hbel⟩ := hrel
    by_cases hlt : k < n
    · obtain ⟨b1, o1, x, rfl, hbB, hu, c0, c1, c2, c3⟩ := lin_at (hr.below (hbel.mono hB)) hlt
      have HU := Lib.hid hu
      obtain ⟨q, hq⟩ : ∃ q, decide (Ok x) = q := ⟨_, rfl⟩
      have HQ := Lib.hid hq
      clear hu hq
      obtain ⟨x0, x1, x2, x3⟩ := x
      simp only at c0 c1 c2 c3
      have HW := Lib.hid hbel
      clear hbel
      go_wp2_with fail
      refine (l7One_c x0 x1 x2 x3 q HQ.out _).mono ?_
      rintro e w1 ⟨rfl, hb⟩
      replace HW := Lib.hid (below_then HW.out hb)
      clear c0 c1 c2 c3 hb
      cases q with
      | false =>
        go_wp2_with fail
        go_ret
        refine ⟨?_, HW.out⟩
        rw [← HB.out, decide_eq_false (fun hh => by have := decide_eq_true (hh.2 _ (List.mem_of_getElem? HU.out)); rw [HQ.out] at this; cases this)]
        rfl
      | true =>
        go_wp2_with fail
        go_roundw
        case rel =>
          refine ⟨k + 1, by go_num, by omega, Lib.hid (fun t ht => ?_), HW.out⟩
          rw [List.take_add_one, HU.out] at ht
          rcases List.mem_append.1 ht with h | h
          · exact HK.out t h
          · rw [List.mem_singleton.1 h]; exact of_decide_eq_true HQ.out
        case measure => simp [intOf]; omega
    · have hkn : k = n := by omega
      subst hkn
      have hall := HK.out
      rw [List.take_of_length_le (by rw [HL.out]; exact Nat.le_refl _)] at hall
      have HT : Hid (decide ((k : Int) ≤ 6) = b) := Lib.hid (by rw [← HB.out]; exact decide_eq_decide.2 ⟨fun h => ⟨by rw [HL.out]; omega, hall⟩, fun h => by have := h.1; rw [HL.out] at this; omega⟩)
      clear hall HK HB
      go_wp2_with fail
      go_ret
      exact ⟨by rw [← HT.out]; rfl, hbel⟩
end Go.Proofs.Ytfdbnolifimnhaa.L7
