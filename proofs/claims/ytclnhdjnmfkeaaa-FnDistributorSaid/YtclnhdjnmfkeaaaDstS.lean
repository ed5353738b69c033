/- What chapter 6's small functions answer, of spec: l6Irq, l6Prio, l6Cpu, l6Ready, l6Good, l6Asked. -/
import Derived.Test.YtclnhdjnmfkeaaaDst
import Derived.Test.YtclnhdjnmfkeaaaIrqA
import Derived.Test.YtclnhdjnmfkeaaaIn
import Derived.Deep.Cut
namespace Go.Proofs.Ytclnhdjnmfkeaaa.L6
open Go Go.RowKit Go.Proofs.Ytclnhdjnmfkeaaa.Mem Go.Proofs.Ytclnhdjnmfkeaaa.Own Go.Proofs.Ytclnhdjnmfkeaaa.L1
theorem l1In_any (x a b : Int) (q : Bool) (h : decide (a ≤ x ∧ x ≤ b) = q) (w : World) :
    Calls Try.prog 73 #[.int .i64 x, .int .i64 a, .int .i64 b] w fun e w' => e = .returned (.bool q) ∧ w = w' := by
  subst h
  by_cases h : a ≤ x ∧ x ≤ b
  · rw [decide_eq_true h]; exact l1In_yes x a b h.1 h.2 w
  · rw [decide_eq_false h]; exact l1In_no x a b (by omega) w
theorem l6Irq_any (x : Int) (b : Bool) (hb : decide (0 ≤ x ∧ x < 8) = b) (w : World) :
    Calls Try.prog 84 #[.int .i64 x] w fun e w' => e = .returned (.bool b) ∧ w = w' := by
  have h2 : decide (0 ≤ x ∧ x ≤ 7) = b := by rw [← hb]; exact decide_eq_decide.2 (by omega)
  clear hb
  go_enter Try.func84, Try.ntmps84
  go_wp2_with fail
  refine (l1In_any x 0 7 b h2 _).mono ?_
  rintro e w1 ⟨rfl, rfl⟩
  go_wp2_with fail
  go_ret
  exact ⟨rfl, rfl⟩
theorem l6Prio_any (x : Int) (b : Bool) (hb : decide (0 ≤ x ∧ x < 16) = b) (w : World) :
    Calls Try.prog 63 #[.int .i64 x] w fun e w' => e = .returned (.bool b) ∧ w = w' := by
  have h2 : decide (0 ≤ x ∧ x ≤ 15) = b := by rw [← hb]; exact decide_eq_decide.2 (by omega)
  clear hb
  go_enter Try.func63, Try.ntmps63
  go_wp2_with fail
  refine (l1In_any x 0 15 b h2 _).mono ?_
  rintro e w1 ⟨rfl, rfl⟩
  go_wp2_with fail
  go_ret
  exact ⟨rfl, rfl⟩
theorem l6Cpu_any (x : Int) (b : Bool) (hb : decide (0 ≤ x ∧ x < 4) = b) (w : World) :
    Calls Try.prog 64 #[.int .i64 x] w fun e w' => e = .returned (.bool b) ∧ w = w' := by
  have h2 : decide (0 ≤ x ∧ x ≤ 3) = b := by rw [← hb]; exact decide_eq_decide.2 (by omega)
  clear hb
  go_enter Try.func64, Try.ntmps64
  go_wp2_with fail
  refine (l1In_any x 0 3 b h2 _).mono ?_
  rintro e w1 ⟨rfl, rfl⟩
  go_wp2_with fail
  go_ret
  exact ⟨rfl, rfl⟩
/-- ready for its target -/
def rdyOwn (x : Irq) : Bool := x.en && (x.pe && !x.ac)
theorem rdyOwn_tg (x : Irq) : isRdy x.tg x = rdyOwn x := by simp [isRdy, rdyOwn]
theorem isRdy_split (cpu : Int) (x : Irq) : isRdy cpu x = (rdyOwn x && decide (x.tg = cpu)) := by unfold isRdy rdyOwn; cases x.en <;> cases x.pe <;> cases x.ac <;> rfl
theorem l6Ready_c (en pe ac : Bool) (pr tg : Int) (b : Bool) (hb : rdyOwn ⟨en, pe, ac, pr, tg⟩ = b) (w : World) :
    Calls Try.prog 71 #[.agg #[.bool en, .bool pe, .bool ac, .int .i64 pr, .int .i64 tg]] w fun e w' => e = .returned (.bool b) ∧ Below w.heap.size w w' := by
  have HB : Hid ((en && (pe && !ac)) = b) := Lib.hid hb
  clear hb
  cases en <;> cases pe <;> cases ac
  all_goals
    go_enter Try.func71, Try.ntmps71
    go_wp2_with fail
    go_ret
    exact ⟨by rw [← HB.out]; rfl, below_more (Below.refl _ _) _⟩
set_option maxRecDepth 100000 in
set_option maxHeartbeats 4000000 in
theorem l6Good_any (A : Option Addr) (n c B : Nat) (xs : List Irq) (w : World) (hr : Reads w B 5 A n (FL xs)) (hn : n ≤ 1048576) (b : Bool) (h : decide (OkL xs) = b) :
    Calls Try.prog 54 #[.slice A n c] w fun e w' => e = .returned (.bool b) ∧ w = w' := by
  have HL : Hid (xs.length = n) := Lib.hid (reads_len hr)
  have HB := Lib.hid h
  clear h
  go_enter Try.func54, Try.ntmps54
  go_wp2_with fail
  go_loop [3] (fun i => ∃ (k : Nat), i = .int .i64 k ∧ k ≤ n ∧ Hid (∀ t ∈ xs.take k, Ok t)) (fun i => n - (intOf i).toNat)
  case atStart => exact ⟨0, rfl, Nat.zero_le _, Lib.hid (by simp)⟩
  case round =>
    obtain ⟨k, rfl, hk, HK⟩ := hrel
    by_cases hlt : k < n
    · obtain ⟨b1, o1, x, rfl, hbB, hu, c0, c1, c2, c3, c4⟩ := irq_at hr hlt
      have HU := Lib.hid hu
      obtain ⟨b1', hb1⟩ : ∃ q, decide (0 ≤ x.pr ∧ x.pr < 16) = q := ⟨_, rfl⟩
      obtain ⟨b2', hb2⟩ : ∃ q, decide (0 ≤ x.tg ∧ x.tg < 4) = q := ⟨_, rfl⟩
      have HX : Hid (decide (Ok x) = (b1' && b2')) := Lib.hid (by rw [← hb1, ← hb2, ← Bool.decide_and]; rfl)
      clear hu
      obtain ⟨x0, x1, x2, x3, x4⟩ := x
      simp only at c0 c1 c2 c3 c4 hb1 hb2
      have HBB := Lib.hid hb2
      clear hb2
      cases b1' with
      | false =>
        go_wp2_with fail
        refine (l6Prio_any _ false hb1 _).mono ?_
        rintro e w1 ⟨rfl, rfl⟩
        clear c0 c1 c2 c3 c4 hb1
        go_wp2_with fail
        go_ret
        refine ⟨?_, rfl⟩
        rw [← HB.out, decide_eq_false (fun hh => by have := decide_eq_true (hh.2 _ (List.mem_of_getElem? HU.out)); rw [HX.out] at this; cases this)]
        rfl
      | true =>
        go_wp2_with fail
        refine (l6Prio_any _ true hb1 _).mono ?_
        rintro e w1 ⟨rfl, rfl⟩
        clear hb1
        go_wp2_with fail
        refine (l6Cpu_any _ b2' HBB.out _).mono ?_
        rintro e w1 ⟨rfl, rfl⟩
        clear c0 c1 c2 c3 c4
        cases b2' with
        | false =>
          go_wp2_with fail
          go_ret
          refine ⟨?_, rfl⟩
          rw [← HB.out, decide_eq_false (fun hh => by have := decide_eq_true (hh.2 _ (List.mem_of_getElem? HU.out)); rw [HX.out] at this; cases this)]
          rfl
        | true =>
          go_wp2_with fail
          go_round
          case rel =>
            refine ⟨k + 1, by go_num, by omega, Lib.hid (fun t ht => ?_)⟩
            rw [List.take_add_one, HU.out] at ht
            rcases List.mem_append.1 ht with h | h
            · exact HK.out t h
            · rw [List.mem_singleton.1 h]; exact of_decide_eq_true HX.out
          case measure => simp [intOf]; omega
    · have hkn : k = n := by omega
      subst hkn
      have hall := HK.out
      rw [List.take_of_length_le (by rw [HL.out]; exact Nat.le_refl _)] at hall
      have HT : Hid (((k : Int) == 8) = b) := Lib.hid (by
        rw [← HB.out]
        by_cases h8 : k = 8
        · rw [decide_eq_true ⟨by rw [HL.out]; exact h8, hall⟩, h8]; rfl
        · rw [decide_eq_false (fun hh : OkL xs => h8 (HL.out ▸ hh.1))]; simp; omega)
      clear hall HK HB
      go_wp2_with fail
      go_ret
      exact ⟨by rw [← HT.out]; rfl, rfl⟩
theorem l6Asked_any (A : Option Addr) (n c B : Nat) (xs : List Irq) (i : Int) (w : World) (hr : Reads w B 5 A n (FL xs)) (hn : n ≤ 1048576) (b : Bool) (h : decide (OkL xs ∧ (0 ≤ i ∧ i < 8)) = b) :
    Calls Try.prog 59 #[.slice A n c, .int .i64 i] w fun e w' => e = .returned (.bool b) ∧ w = w' := by
  obtain ⟨b1, hb1⟩ : ∃ q, decide (OkL xs) = q := ⟨_, rfl⟩
  obtain ⟨b2, hb2⟩ : ∃ q, decide (0 ≤ i ∧ i < 8) = q := ⟨_, rfl⟩
  have HB : Hid ((b1 && b2) = b) := Lib.hid (by rw [← h, ← hb1, ← hb2, ← Bool.decide_and])
  have HR := Lib.hid hr
  have H2 := Lib.hid hb2
  have H1 := Lib.hid hb1
  clear h hr hb2 hb1
  cases b1 with
  | true =>
    go_enter Try.func59, Try.ntmps59
    go_wp2_with fail
    refine (l6Good_any A n c B xs _ HR.out hn _ H1.out).mono ?_
    rintro e w1 ⟨rfl, rfl⟩
    go_wp2_with fail
    refine (l6Irq_any _ _ H2.out _).mono ?_
    rintro e w1 ⟨rfl, rfl⟩
    go_wp2_with fail
    go_ret
    exact ⟨by rw [← HB.out]; rfl, rfl⟩
  | false =>
    go_enter Try.func59, Try.ntmps59
    go_wp2_with fail
    refine (l6Good_any A n c B xs _ HR.out hn _ H1.out).mono ?_
    rintro e w1 ⟨rfl, rfl⟩
    go_wp2_with fail
    go_ret
    exact ⟨by rw [← HB.out]; rfl, rfl⟩
end Go.Proofs.Ytclnhdjnmfkeaaa.L6
