/- What spec.l5Good and spec.IsTrap answer. -/
import Derived.Test.YtaamjnpknmimmaaTrpI
import Derived.Test.YtaamjnpknmimmaaIn
namespace Go.Proofs.Ytaamjnpknmimmaa.L5
open Go Go.RowKit Go.Proofs.Ytaamjnpknmimmaa.Mem Go.Proofs.Ytaamjnpknmimmaa.Own Go.Proofs.Ytaamjnpknmimmaa.L1
set_option maxRecDepth 100000 in
set_option maxHeartbeats 4000000 in
theorem l5Good_c (c wd : Int) (s : Bool) (r i : Int) (w : World) (b : Bool) (hb : decide (Ok ⟨c, wd, s, r, i⟩) = b) :
    Calls Try.prog 47 #[.agg #[.int .i64 c, .int .i64 wd, .bool s, .int .i64 r, .int .i64 i]] w fun e w' => e = .returned (.bool b) ∧ Below w.heap.size w w' := by
  have HB := Lib.hid hb
  clear hb
  by_cases h1 : c = 1
  · subst h1
    have HT : Hid (wd = 0 → r = 0 → 0 ≤ i ∧ i ≤ 15 → true = b) := Lib.hid (fun e1 e2 e3 => by
      rw [← HB.out]; exact (decide_eq_true ((okF_iff _ _ _ _).2 ⟨e1, e2, e3⟩)).symm)
    have HN : Hid (¬ (wd = 0 ∧ r = 0 ∧ (0 ≤ i ∧ i ≤ 15)) → false = b) := Lib.hid (fun e => by
      rw [← HB.out]; exact (decide_eq_false (fun h => e ((okF_iff _ _ _ _).1 h))).symm)
    clear HB
    by_cases h : 0 ≤ i ∧ i ≤ 15
    all_goals
      go_enter Try.func47, Try.ntmps47
      go_wp2_with (go_at_call 57; first
        | (with_reducible refine (l1In_yes i 0 15 (by omega) (by omega) _).mono ?_); rintro e w1 ⟨rfl, rfl⟩
        | (with_reducible refine (l1In_no i 0 15 (by omega) _).mono ?_); rintro e w1 ⟨rfl, rfl⟩)
      all_goals go_ret
      all_goals refine ⟨ret_b ?_, below_more (Below.refl _ _) _⟩
      all_goals first
        | exact HT.out (by omega) (by omega) (by omega)
        | exact HN.out (by omega)
  by_cases h2 : c = 2
  · subst h2
    clear h1
    have HT : Hid (wd = 0 → r = 0 → 0 ≤ i ∧ i ≤ 255 → (!s) = b) := Lib.hid (fun e1 e2 e3 => by
      rw [← HB.out]
      cases s
      · exact (decide_eq_true ((okC_iff _ _ _ _).2 ⟨e1, e2, rfl, e3⟩)).symm
      · exact (decide_eq_false (fun h => by have := ((okC_iff _ _ _ _).1 h).2.2.1; cases this)).symm)
    have HN : Hid (¬ (wd = 0 ∧ r = 0 ∧ (0 ≤ i ∧ i ≤ 255)) → false = b) := Lib.hid (fun e => by
      rw [← HB.out]
      exact (decide_eq_false (fun h => e ⟨((okC_iff _ _ _ _).1 h).1, ((okC_iff _ _ _ _).1 h).2.1, ((okC_iff _ _ _ _).1 h).2.2.2⟩)).symm)
    have HS : Hid (s = true → false = b) := Lib.hid (fun e => by
      rw [← HB.out]
      exact (decide_eq_false (fun h => by have := ((okC_iff _ _ _ _).1 h).2.2.1; rw [e] at this; cases this)).symm)
    clear HB
    by_cases h : 0 ≤ i ∧ i ≤ 255
    all_goals
      cases s
      all_goals
        go_enter Try.func47, Try.ntmps47
        go_wp2_with (go_at_call 57; first
          | (with_reducible refine (l1In_yes i 0 255 (by omega) (by omega) _).mono ?_); rintro e w1 ⟨rfl, rfl⟩
          | (with_reducible refine (l1In_no i 0 255 (by omega) _).mono ?_); rintro e w1 ⟨rfl, rfl⟩)
        all_goals go_ret
        all_goals refine ⟨ret_b ?_, below_more (Below.refl _ _) _⟩
        all_goals first
          | exact HT.out (by omega) (by omega) (by omega)
          | exact HN.out (by omega)
          | exact HS.out rfl
  by_cases h3 : c = 3
  · subst h3
    clear h1 h2
    have HT : Hid ((wd = 1 ∨ wd = 2 ∨ wd = 4) → (0 ≤ r ∧ r ≤ 3) → (0 ≤ i ∧ i ≤ 65535) → decide (i % wd = 0) = b) := Lib.hid (fun e1 e2 e3 => by
      rw [← HB.out]
      exact decide_eq_decide.2 ⟨fun e4 => (okD_iff _ _ _ _).2 ⟨⟨e1, e3, e4⟩, e2⟩, fun h => ((okD_iff _ _ _ _).1 h).1.2.2⟩)
    have HN : Hid (¬ ((wd = 1 ∨ wd = 2 ∨ wd = 4) ∧ (0 ≤ r ∧ r ≤ 3) ∧ (0 ≤ i ∧ i ≤ 65535)) → false = b) := Lib.hid (fun e => by
      rw [← HB.out]
      exact (decide_eq_false (fun h => e ⟨((okD_iff _ _ _ _).1 h).1.1, ((okD_iff _ _ _ _).1 h).2, ((okD_iff _ _ _ _).1 h).1.2.1⟩)).symm)
    clear HB
    by_cases hw : wd = 1 ∨ wd = 2 ∨ wd = 4
    · by_cases h : (0 ≤ r ∧ r ≤ 3) ∧ (0 ≤ i ∧ i ≤ 65535)
      · obtain ⟨ha, hc⟩ := h
        have HX := HT.out hw ha hc
        clear HT HN
        rcases hw with rfl | rfl | rfl
        all_goals
          have HY := Lib.hid HX
          clear HX
          go_enter Try.func47, Try.ntmps47
          go_wp2_with (go_at_call 57; first
            | (with_reducible refine (l1In_yes r 0 3 (by omega) (by omega) _).mono ?_); rintro e w1 ⟨rfl, rfl⟩
            | (with_reducible refine (l1In_yes i 0 65535 (by omega) (by omega) _).mono ?_); rintro e w1 ⟨rfl, rfl⟩)
          all_goals go_ret
          all_goals refine ⟨ret_b ?_, below_more (Below.refl _ _) _⟩
          all_goals first
            | exact HY.out
            | (rw [← HY.out]; first | rfl | (rw [Bool.eq_iff_iff]; simp; done) | (rw [Bool.eq_iff_iff]; simp; omega))
      · have HF := Lib.hid (HN.out (fun e => h e.2))
        have hr : 0 ≤ r ∧ r ≤ 3 ∨ (r < 0 ∨ 3 < r) := by omega
        have hi : 0 ≤ i ∧ i ≤ 65535 ∨ (i < 0 ∨ 65535 < i) := by omega
        have hh : (r < 0 ∨ 3 < r) ∨ (i < 0 ∨ 65535 < i) := by omega
        clear HT HN h
        rcases hw with rfl | rfl | rfl
        all_goals
          rcases hr with hr | hr
          all_goals
            go_enter Try.func47, Try.ntmps47
            go_wp2_with (go_at_call 57; first
              | (with_reducible refine (l1In_yes r 0 3 (by omega) (by omega) _).mono ?_); rintro e w1 ⟨rfl, rfl⟩
              | (with_reducible refine (l1In_no r 0 3 (by omega) _).mono ?_); rintro e w1 ⟨rfl, rfl⟩
              | (with_reducible refine (l1In_no i 0 65535 (by omega) _).mono ?_); rintro e w1 ⟨rfl, rfl⟩)
            all_goals go_ret
            all_goals exact ⟨ret_b HF.out, below_more (Below.refl _ _) _⟩
    · have g1 : (wd == 1) = false := by simp; omega
      have g2 : (wd == 2) = false := by simp; omega
      have g4 : (wd == 4) = false := by simp; omega
      have HF := Lib.hid (HN.out (fun h => hw h.1))
      clear HT HN hw
      go_enter Try.func47, Try.ntmps47
      go_wp2_with fail
      go_ret
      exact ⟨ret_b HF.out, below_more (Below.refl _ _) _⟩
  by_cases h4 : c = 4 ∨ c = 5
  · have HT : Hid (wd = 0 → r = 0 → i = 0 → (!s) = b) := Lib.hid (fun e1 e2 e3 => by
      rw [← HB.out]
      cases s
      · exact (decide_eq_true ((okW_iff _ _ _ _ _ h4).2 ⟨e1, rfl, e2, e3⟩)).symm
      · exact (decide_eq_false (fun h => by have := ((okW_iff _ _ _ _ _ h4).1 h).2.1; cases this)).symm)
    have HN : Hid (¬ (wd = 0 ∧ r = 0 ∧ i = 0) → false = b) := Lib.hid (fun e => by
      rw [← HB.out]
      exact (decide_eq_false (fun h => e ⟨((okW_iff _ _ _ _ _ h4).1 h).1, ((okW_iff _ _ _ _ _ h4).1 h).2.2.1, ((okW_iff _ _ _ _ _ h4).1 h).2.2.2⟩)).symm)
    clear HB h1 h2 h3
    cases s
    all_goals
      rcases h4 with rfl | rfl
      all_goals
        go_enter Try.func47, Try.ntmps47
        go_wp2_with (go_at_call 57; (with_reducible refine (l1In_yes _ 4 5 (by omega) (by omega) _).mono ?_); rintro e w1 ⟨rfl, rfl⟩)
        all_goals go_ret
        all_goals refine ⟨ret_b ?_, below_more (Below.refl _ _) _⟩
        all_goals first
          | exact HT.out (by omega) (by omega) (by omega)
          | exact HN.out (by omega)
          | (by_cases e : wd = 0 ∧ r = 0 ∧ i = 0
             · exact HT.out e.1 e.2.1 e.2.2
             · exact HN.out e)
  · have HF : Hid (false = b) := Lib.hid (by
      rw [← HB.out]
      refine (decide_eq_false (fun h' => ?_)).symm
      have := ok_cause h'
      simp only at this
      omega)
    have h5 : c < 4 ∨ 5 < c := by omega
    clear h4 HB
    go_enter Try.func47, Try.ntmps47
    go_wp2_with (go_at_call 57; (with_reducible refine (l1In_no c 4 5 h5 _).mono ?_); rintro e w1 ⟨rfl, rfl⟩)
    all_goals go_ret
    all_goals exact ⟨ret_b HF.out, below_more (Below.refl _ _) _⟩
end Go.Proofs.Ytaamjnpknmimmaa.L5
