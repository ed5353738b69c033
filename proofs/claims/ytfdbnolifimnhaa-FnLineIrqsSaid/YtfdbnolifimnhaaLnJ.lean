/- What impl.IsLine and impl.AreLines answer. -/
import Derived.Test.YtfdbnolifimnhaaLnA
import Derived.Test.YtfdbnolifimnhaaLinA
import Derived.Test.YtfdbnolifimnhaaIsIq
import Derived.Test.YtfdbnolifimnhaaBR
import Derived.Deep.Cut
namespace Go.Proofs.Ytfdbnolifimnhaa.L7
open Go Go.RowKit Go.Proofs.Ytfdbnolifimnhaa.Mem Go.Proofs.Ytfdbnolifimnhaa.Own Go.Proofs.Ytfdbnolifimnhaa.L6
set_option maxRecDepth 100000 in
set_option maxHeartbeats 2000000 in
theorem isLine_c (k i : Int) (h r : Bool) (b : Bool) (hb : decide (Ok ⟨k, i, h, r⟩) = b) (w : World) :
    Calls Try.prog 51 #[.agg #[.int .i64 k, .int .i64 i, .bool h, .bool r]] w fun e w' => e = .returned (.bool b) ∧ Below w.heap.size w w' := by
  obtain ⟨b1, hb1⟩ : ∃ q, decide (0 ≤ i ∧ i < 8) = q := ⟨_, rfl⟩
  by_cases h0 : k = 0
  · subst h0
    rw [ok_0, hb1] at hb
    subst hb
    go_enter Try.func51, Try.ntmps51
    go_wp2_with fail
    refine (isIrq_any _ _ hb1 _).mono ?_
    rintro e w1 ⟨rfl, rfl⟩
    go_wp2_with fail
    go_ret
    exact ⟨rfl, below_more (Below.refl _ _) _⟩
  by_cases h1 : k = 1
  · subst h1
    rw [ok_1, hb1] at hb
    clear h0
    cases b1 <;> cases h <;> cases r
    all_goals
      subst hb
      go_enter Try.func51, Try.ntmps51
      go_wp2_with fail
      refine (isIrq_any _ _ hb1 _).mono ?_
      rintro e w1 ⟨rfl, rfl⟩
      go_wp2_with fail
      go_ret
      exact ⟨rfl, below_more (Below.refl _ _) _⟩
  rw [ok_no i h r h0 h1] at hb
  subst hb
  have t0 : (k == 0) = false := by simpa using h0
  have t1 : (k == 1) = false := by simpa using h1
  go_enter Try.func51, Try.ntmps51
  go_wp2_with fail
  go_ret
  exact ⟨rfl, below_more (Below.refl _ _) _⟩
set_option maxRecDepth 100000 in
set_option maxHeartbeats 2000000 in
theorem implAre_any (A : Option Addr) (n c B : Nat) (xs : List Lin) (w : World) (hr : Reads w B 4 A n (FL xs)) (hB : B ≤ w.heap.size) (hn : n ≤ 1048576) (b : Bool) (h : decide (OkL xs) = b) :
    Calls Try.prog 69 #[.slice A n c] w fun e w' => e = .returned (.bool b) ∧ Below w.heap.size w w' := by
  have HL : Hid (xs.length = n) := Lib.hid (reads_len hr)
  have HB := Lib.hid h
  clear h
  by_cases h6 : n ≤ 6
  · have hgt : decide ((n : Int) > 6) = false := decide_eq_false (by omega)
    go_enter Try.func69, Try.ntmps69
    go_wp2_with fail
    go_loopw [10] (fun i wr => ∃ (k : Nat), i = .int .i64 k ∧ k ≤ n ∧ Hid (∀ t ∈ xs.take k, Ok t) ∧ Below w.heap.size w wr) (fun i _ => n - (intOf i).toNat)
    case atStart => exact ⟨0, rfl, Nat.zero_le _, Lib.hid (by simp), Below.refl _ _⟩
    case round =>
      obtain ⟨k, rfl, hk, HK, hbel⟩ := hrel
      by_cases hlt : k < n
      · obtain ⟨b1, o1, x, rfl, hbB, hu, c0, c1, c2, c3⟩ := lin_at (hr.below (hbel.mono hB)) hlt
        have HU := Lib.hid hu
        obtain ⟨q, hq⟩ : ∃ q, decide (Ok x) = q := ⟨_, rfl⟩
        have HQ := Lib.hid hq
        clear hu hq
        obtain ⟨x0, x1, x2, x3⟩ := x
        simp only at c0 c1 c2 c3
        have HW := Lib.hid (below_more hbel (.cells #[.int .i64 x0, .int .i64 x1, .bool x2, .bool x3] 58))
        clear hbel
        go_wp2_with fail
        refine (isLine_c x0 x1 x2 x3 q HQ.out _).mono ?_
        rintro e w1 ⟨rfl, hb⟩
        replace HW := Lib.hid (below_then HW.out hb)
        clear c0 c1 c2 c3 hb
        cases q with
        | false =>
          go_wp2_with fail
          go_ret
          refine ⟨?_, HW.out⟩
          rw [← HB.out, decide_eq_false (fun hh => by have := decide_eq_true (hh.2 _ (List.mem_of_getElem? HU.out)); rw [HQ.out] at this; cases this)]
          rfl
        | true =>
          go_wp2_with fail
          go_roundw
          case rel =>
            refine ⟨k + 1, by go_num, by omega, Lib.hid (fun t ht => ?_), HW.out⟩
            rw [List.take_add_one, HU.out] at ht
            rcases List.mem_append.1 ht with h | h
            · exact HK.out t h
            · rw [List.mem_singleton.1 h]; exact of_decide_eq_true HQ.out
          case measure => simp [intOf]; omega
      · have hkn : k = n := by omega
        subst hkn
        have hall := HK.out
        rw [List.take_of_length_le (by rw [HL.out]; exact Nat.le_refl _)] at hall
        have HT : Hid (decide ((k : Int) ≤ 6) = b) := Lib.hid (by rw [← HB.out]; exact decide_eq_decide.2 ⟨fun h => ⟨by rw [HL.out]; omega, hall⟩, fun h => by have := h.1; rw [HL.out] at this; omega⟩)
        clear hall HK HB
        have HT2 : Hid (true = b) := Lib.hid (by rw [← HT.out]; exact (decide_eq_true (by omega)).symm)
        clear HT
        go_wp2_with fail
        go_ret
        exact ⟨by rw [← HT2.out]; rfl, hbel⟩
  · have HF : Hid (false = b) := Lib.hid (by rw [← HB.out]; exact (decide_eq_false (fun hh => h6 (HL.out ▸ hh.1))).symm)
    have hgt : (6 : Int) < n := by omega
    clear HB
    go_enter Try.func69, Try.ntmps69
    go_wp2_with fail
    go_ret
    exact ⟨by rw [← HF.out]; rfl, Below.refl _ _⟩
end Go.Proofs.Ytfdbnolifimnhaa.L7
