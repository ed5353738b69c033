/- What chapter 6's small functions answer, of impl: isPriority, isLimit, isCpu, isIrq, isReady, AreIrqs. -/
import Derived.Test.YtclnhdjnmfkeaaaDst
import Derived.Test.YtclnhdjnmfkeaaaIrqA
import Derived.Test.YtclnhdjnmfkeaaaIsB
import Derived.Deep.Cut
namespace Go.Proofs.Ytclnhdjnmfkeaaa.L6
open Go Go.RowKit Go.Proofs.Ytclnhdjnmfkeaaa.Mem Go.Proofs.Ytclnhdjnmfkeaaa.Own
theorem isPriority_any (x : Int) (b : Bool) (hb : decide (0 ≤ x ∧ x < 16) = b) (w : World) :
    Calls Try.prog 56 #[.int .i64 x] w fun e w' => e = .returned (.bool b) ∧ w = w' := by
  go_enter Try.func56, Try.ntmps56
  go_wp2_with fail
  refine (isBelow_any x 16 b hb _).mono ?_
  rintro e w1 ⟨rfl, rfl⟩
  go_wp2_with fail
  go_ret
  exact ⟨rfl, rfl⟩
theorem isLimit_any (x : Int) (b : Bool) (hb : decide (0 ≤ x ∧ x < 17) = b) (w : World) :
    Calls Try.prog 74 #[.int .i64 x] w fun e w' => e = .returned (.bool b) ∧ w = w' := by
  go_enter Try.func74, Try.ntmps74
  go_wp2_with fail
  refine (isBelow_any x 17 b hb _).mono ?_
  rintro e w1 ⟨rfl, rfl⟩
  go_wp2_with fail
  go_ret
  exact ⟨rfl, rfl⟩
theorem isCpu_any (x : Int) (b : Bool) (hb : decide (0 ≤ x ∧ x < 4) = b) (w : World) :
    Calls Try.prog 57 #[.int .i64 x] w fun e w' => e = .returned (.bool b) ∧ w = w' := by
  go_enter Try.func57, Try.ntmps57
  go_wp2_with fail
  refine (isBelow_any x 4 b hb _).mono ?_
  rintro e w1 ⟨rfl, rfl⟩
  go_wp2_with fail
  go_ret
  exact ⟨rfl, rfl⟩
theorem isIrq_any (x : Int) (b : Bool) (hb : decide (0 ≤ x ∧ x < 8) = b) (w : World) :
    Calls Try.prog 61 #[.int .i64 x] w fun e w' => e = .returned (.bool b) ∧ w = w' := by
  go_enter Try.func61, Try.ntmps61
  go_wp2_with fail
  refine (isBelow_any x 8 b hb _).mono ?_
  rintro e w1 ⟨rfl, rfl⟩
  go_wp2_with fail
  go_ret
  exact ⟨rfl, rfl⟩
theorem isReady_c (en pe ac : Bool) (pr tg cpu : Int) (b : Bool) (hb : isRdy cpu ⟨en, pe, ac, pr, tg⟩ = b) (w : World) :
    Calls Try.prog 66 #[.agg #[.bool en, .bool pe, .bool ac, .int .i64 pr, .int .i64 tg], .int .i64 cpu] w fun e w' => e = .returned (.bool b) ∧ Below w.heap.size w w' := by
  have HB : Hid ((en && (pe && (!ac && (tg == cpu)))) = b) := Lib.hid (by rw [← hb]; unfold isRdy; simp only; cases en <;> cases pe <;> cases ac <;> first | rfl | (simp [beq_iff_eq]; rfl) | (rw [Bool.eq_iff_iff]; simp))
  clear hb
  cases en <;> cases pe <;> cases ac
  all_goals
    go_enter Try.func66, Try.ntmps66
    go_wp2_with fail
    go_ret
    exact ⟨by rw [← HB.out]; rfl, below_more (Below.refl _ _) _⟩
set_option maxRecDepth 100000 in
set_option maxHeartbeats 4000000 in
theorem implAre_any (A : Option Addr) (n c B : Nat) (xs : List Irq) (w : World) (hr : Reads w B 5 A n (FL xs)) (hB : B ≤ w.heap.size) (b : Bool) (h : decide (OkL xs) = b) :
    Calls Try.prog 18 #[.slice A n c] w fun e w' => e = .returned (.bool b) ∧ Below w.heap.size w w' := by
  have HL : Hid (xs.length = n) := Lib.hid (reads_len hr)
  have HB := Lib.hid h
  clear h
  by_cases h8 : n = 8
  · subst h8
    go_enter Try.func18, Try.ntmps18
    go_wp2_with fail
    go_loopw [10] (fun i wr => ∃ (k : Nat), i = .int .i64 k ∧ k ≤ 8 ∧ Hid (∀ t ∈ xs.take k, Ok t) ∧ Below w.heap.size w wr) (fun i _ => 8 - (intOf i).toNat)
    case atStart => exact ⟨0, rfl, Nat.zero_le _, Lib.hid (by simp), Below.refl _ _⟩
    case round =>
      obtain ⟨k, rfl, hk, HK, hbel⟩ := hrel
      by_cases hlt : k < 8
      · obtain ⟨b1, o1, x, rfl, hbB, hu, c0, c1, c2, c3, c4⟩ := irq_at (hr.below (hbel.mono hB)) hlt
        have HU := Lib.hid hu
        have HW := Lib.hid hbel
        obtain ⟨b1', hb1⟩ : ∃ q, decide (0 ≤ x.pr ∧ x.pr < 16) = q := ⟨_, rfl⟩
        obtain ⟨b2', hb2⟩ : ∃ q, decide (0 ≤ x.tg ∧ x.tg < 4) = q := ⟨_, rfl⟩
        have HX : Hid (decide (Ok x) = (b1' && b2')) := Lib.hid (by rw [← hb1, ← hb2, ← Bool.decide_and]; rfl)
        clear hu hbel
        obtain ⟨x0, x1, x2, x3, x4⟩ := x
        simp only at c0 c1 c2 c3 c4 hb1 hb2
        have HBB := Lib.hid hb2
        cases b1' with
        | false =>
          go_wp2_with fail
          refine (isPriority_any _ false hb1 _).mono ?_
          rintro e w1 ⟨rfl, rfl⟩
          clear c0 c1 c2 c3 c4 hb1 hb2
          go_wp2_with fail
          go_ret
          refine ⟨?_, below_more HW.out _⟩
          rw [← HB.out, decide_eq_false (fun hh => by have := decide_eq_true (hh.2 _ (List.mem_of_getElem? HU.out)); rw [HX.out] at this; cases this)]
          rfl
        | true =>
          have k4 := (Blk.new wr #[.bool x0, .bool x1, .bool x2, .int .i64 x3, .int .i64 x4] 53).cell 4 _ rfl
          go_wp2_with fail
          refine (isPriority_any _ true hb1 _).mono ?_
          rintro e w1 ⟨rfl, rfl⟩
          clear c0 c1 c2 c3 c4 hb1 hb2
          go_wp2_with fail
          refine (isCpu_any _ b2' HBB.out _).mono ?_
          rintro e w1 ⟨rfl, rfl⟩
          clear k4
          cases b2' with
          | false =>
            go_wp2_with fail
            go_ret
            refine ⟨?_, below_more HW.out _⟩
            rw [← HB.out, decide_eq_false (fun hh => by have := decide_eq_true (hh.2 _ (List.mem_of_getElem? HU.out)); rw [HX.out] at this; cases this)]
            rfl
          | true =>
            go_wp2_with fail
            go_roundw
            case rel =>
              refine ⟨k + 1, by go_num, by omega, Lib.hid (fun t ht => ?_), below_more HW.out _⟩
              rw [List.take_add_one, HU.out] at ht
              rcases List.mem_append.1 ht with h | h
              · exact HK.out t h
              · rw [List.mem_singleton.1 h]; exact of_decide_eq_true HX.out
            case measure => simp [intOf]; omega
      · have hkn : k = 8 := by omega
        subst hkn
        have hall := HK.out
        rw [List.take_of_length_le (by rw [HL.out]; exact Nat.le_refl _)] at hall
        have HT : Hid (true = b) := Lib.hid (by rw [← HB.out]; exact (decide_eq_true ⟨HL.out, hall⟩).symm)
        clear hall HK HB
        go_wp2_with fail
        go_ret
        exact ⟨by rw [← HT.out]; rfl, hbel⟩
  · have HF : Hid (false = b) := Lib.hid (by rw [← HB.out]; exact (decide_eq_false (fun hh => h8 (HL.out ▸ hh.1))).symm)
    have h9 : ((n : Int) == 8) = false := by simp; omega
    clear HB
    go_enter Try.func18, Try.ntmps18
    go_wp2_with fail
    go_ret
    exact ⟨by rw [← HF.out]; rfl, Below.refl _ _⟩
end Go.Proofs.Ytclnhdjnmfkeaaa.L6
