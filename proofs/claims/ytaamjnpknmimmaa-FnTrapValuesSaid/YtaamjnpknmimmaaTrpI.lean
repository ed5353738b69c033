/- What impl.IsTrap answers. -/
import Derived.Test.YtaamjnpknmimmaaTrpC
import Derived.Test.YtaamjnpknmimmaaTrap
import Derived.Test.YtaamjnpknmimmaaIsB
import Derived.Laws.StructEq
namespace Go.Proofs.Ytaamjnpknmimmaa.L5
open Go Go.RowKit Go.Proofs.Ytaamjnpknmimmaa.Mem Go.Proofs.Ytaamjnpknmimmaa.Own
theorem ret_b {a b : Bool} (h : a = b) : Ending.returned (.bool a) = .returned (.bool b) := by rw [h]
theorem trapIsPage_any (x : Int) (b : Bool) (hb : decide (0 ≤ x ∧ x < 16) = b) (w : World) :
    Calls Try.prog 48 #[.int .i64 x] w fun e w' => e = .returned (.bool b) ∧ w = w' := by
  go_enter Try.func48, Try.ntmps48
  go_wp2_with fail
  refine (isBelow_any x 16 b hb _).mono ?_
  rintro e w1 ⟨rfl, hw⟩
  subst hw
  go_wp2_with fail
  go_ret
  exact ⟨rfl, rfl⟩
theorem isWidth_any (x : Int) (b : Bool) (hb : decide (x = 1 ∨ x = 2 ∨ x = 4) = b) (w : World) :
    Calls Try.prog 65 #[.int .i64 x] w fun e w' => e = .returned (.bool b) ∧ w = w' := by
  have HB : Hid ((x == 1 || x == 2 || x == 4) = b) := Lib.hid (by rw [← hb, Bool.eq_iff_iff]; simp [or_assoc])
  clear hb
  go_enter Try.func65, Try.ntmps65
  go_wp2_with fail
  all_goals go_ret
  all_goals refine ⟨ret_b ?_, rfl⟩
  all_goals first
    | exact HB.out
    | (rw [← HB.out]; simp [*])
set_option maxHeartbeats 1000000 in
theorem isAccess_any (x n : Int) (b : Bool) (hb : decide ((n = 1 ∨ n = 2 ∨ n = 4) ∧ (0 ≤ x ∧ x ≤ 65535) ∧ x % n = 0) = b) (w : World) :
    Calls Try.prog 50 #[.int .i64 x, .int .i64 n] w fun e w' => e = .returned (.bool b) ∧ w = w' := by
  have HB := Lib.hid hb
  clear hb
  by_cases h1 : n = 1 ∨ n = 2 ∨ n = 4
  · have HW : Hid (decide (n = 1 ∨ n = 2 ∨ n = 4) = true) := Lib.hid (decide_eq_true h1)
    by_cases h2 : 0 ≤ x ∧ x ≤ 65535
    · rcases h1 with rfl | rfl | rfl
      all_goals
        go_enter Try.func50, Try.ntmps50
        go_wp2_with fail
        refine (isWidth_any _ true (by decide) _).mono ?_
        rintro e w1 ⟨rfl, hw⟩
        subst hw
        go_wp2_with fail
        refine (isBelow_yes x 65536 (by omega) (by omega) _).mono ?_
        rintro e w1 ⟨rfl, hw⟩
        subst hw
        go_wp2_with fail
        all_goals go_ret
        all_goals first
          | exact ⟨ret_b (by rw [← HB.out]; exact (decide_eq_true ⟨by decide, by omega, by omega⟩).symm), rfl⟩
          | exact ⟨ret_b (by rw [← HB.out]; exact (decide_eq_false (by omega)).symm), rfl⟩
          | exact ⟨ret_b (by rw [← HB.out, Bool.eq_iff_iff]; simp; omega), rfl⟩
    · have hF : Hid (false = b) := Lib.hid (by rw [← HB.out]; exact (decide_eq_false (fun h => h2 h.2.1)).symm)
      have h3 : x < 0 ∨ 65536 ≤ x := by omega
      clear h1
      go_enter Try.func50, Try.ntmps50
      go_wp2_with fail
      refine (isWidth_any _ true HW.out _).mono ?_
      rintro e w1 ⟨rfl, hw⟩
      subst hw
      go_wp2_with fail
      refine (isBelow_no x 65536 h3 _).mono ?_
      rintro e w1 ⟨rfl, hw⟩
      subst hw
      go_wp2_with fail
      go_ret
      exact ⟨ret_b hF.out, rfl⟩
  · have HW : Hid (decide (n = 1 ∨ n = 2 ∨ n = 4) = false) := Lib.hid (decide_eq_false h1)
    have hF : Hid (false = b) := Lib.hid (by rw [← HB.out]; exact (decide_eq_false (fun h => h1 h.1)).symm)
    clear h1
    go_enter Try.func50, Try.ntmps50
    go_wp2_with fail
    refine (isWidth_any _ false HW.out _).mono ?_
    rintro e w1 ⟨rfl, hw⟩
    subst hw
    go_wp2_with fail
    go_ret
    exact ⟨ret_b hF.out, rfl⟩
theorem okF_iff (wd r i : Int) (s : Bool) : Ok ⟨1, wd, s, r, i⟩ ↔ wd = 0 ∧ r = 0 ∧ (0 ≤ i ∧ i ≤ 15) := by
  unfold Ok OkF OkC OkD OkW; simp
theorem okC_iff (wd r i : Int) (s : Bool) : Ok ⟨2, wd, s, r, i⟩ ↔ wd = 0 ∧ r = 0 ∧ s = false ∧ (0 ≤ i ∧ i ≤ 255) := by
  unfold Ok OkF OkC OkD OkW; simp
theorem okD_iff (wd r i : Int) (s : Bool) : Ok ⟨3, wd, s, r, i⟩ ↔ ((wd = 1 ∨ wd = 2 ∨ wd = 4) ∧ (0 ≤ i ∧ i ≤ 65535) ∧ i % wd = 0) ∧ (0 ≤ r ∧ r ≤ 3) := by
  unfold Ok OkF OkC OkD OkW
  simp
  constructor
  · rintro ⟨h1, h2, h3, h4⟩; exact ⟨⟨h1, h3, h4⟩, h2⟩
  · rintro ⟨⟨h1, h3, h4⟩, h2⟩; exact ⟨h1, h2, h3, h4⟩
theorem okW_iff (c wd r i : Int) (s : Bool) (hc : c = 4 ∨ c = 5) : Ok ⟨c, wd, s, r, i⟩ ↔ wd = 0 ∧ s = false ∧ r = 0 ∧ i = 0 := by
  unfold Ok OkF OkC OkD OkW
  rcases hc with rfl | rfl <;> simp
theorem ok_cause {t : Trp} (h : Ok t) : t.cause = 1 ∨ t.cause = 2 ∨ t.cause = 3 ∨ t.cause = 4 ∨ t.cause = 5 := by
  have := (ok_bounds h).1
  omega
set_option maxRecDepth 100000 in
set_option maxHeartbeats 4000000 in
theorem implIs_c (c wd : Int) (s : Bool) (r i : Int) (w : World) (b : Bool) (hb : decide (Ok ⟨c, wd, s, r, i⟩) = b) :
    Calls Try.prog 15 #[.agg #[.int .i64 c, .int .i64 wd, .bool s, .int .i64 r, .int .i64 i]] w fun e w' => e = .returned (.bool b) ∧ Below w.heap.size w w' := by
  have HB := Lib.hid hb
  clear hb
  by_cases h1 : c = 1
  · subst h1
    by_cases h : 0 ≤ i ∧ i ≤ 15
    · go_enter Try.func15, Try.ntmps15
      go_wp2_with fail
      refine (trapIsPage_any i true (decide_eq_true (by omega)) _).mono ?_
      rintro e w1 ⟨rfl, hw⟩
      subst hw
      go_wp2_with fail
      all_goals go_ret
      all_goals refine ⟨ret_b ?_, below_more (Below.refl _ _) _⟩
      all_goals rw [← HB.out]
      all_goals symm
      all_goals first
        | exact decide_eq_true ((okF_iff _ _ _ _).2 ⟨by omega, by omega, by omega⟩)
        | exact decide_eq_false (fun h => by have := (okF_iff _ _ _ _).1 h; omega)
    · have hF : Hid (false = b) := Lib.hid (by rw [← HB.out]; exact (decide_eq_false (fun h' => h ((okF_iff _ _ _ _).1 h').2.2)).symm)
      go_enter Try.func15, Try.ntmps15
      go_wp2_with fail
      refine (trapIsPage_any i false (decide_eq_false (by omega)) _).mono ?_
      rintro e w1 ⟨rfl, hw⟩
      subst hw
      go_wp2_with fail
      go_ret
      exact ⟨ret_b hF.out, below_more (Below.refl _ _) _⟩
  by_cases h2 : c = 2
  · subst h2
    clear h1
    by_cases h : 0 ≤ i ∧ i < 256
    · have HT : Hid (wd = 0 → r = 0 → (!s) = b) := Lib.hid (fun e1 e2 => by
        rw [← HB.out]
        cases s
        · exact (decide_eq_true ((okC_iff _ _ _ _).2 ⟨e1, e2, rfl, by omega⟩)).symm
        · exact (decide_eq_false (fun h => by have := ((okC_iff _ _ _ _).1 h).2.2.1; cases this)).symm)
      have HN : Hid (¬ (wd = 0 ∧ r = 0) → false = b) := Lib.hid (fun e => by
        rw [← HB.out]
        exact (decide_eq_false (fun h => e ⟨((okC_iff _ _ _ _).1 h).1, ((okC_iff _ _ _ _).1 h).2.1⟩)).symm)
      clear HB
      cases s
      all_goals
        go_enter Try.func15, Try.ntmps15
        go_wp2_with fail
        refine (isBelow_yes i 256 h.1 h.2 _).mono ?_
        rintro e w1 ⟨rfl, hw⟩
        subst hw
        go_wp2_with fail
        all_goals go_ret
        all_goals refine ⟨ret_b ?_, below_more (Below.refl _ _) _⟩
        all_goals first
          | exact HT.out (by omega) (by omega)
          | exact HN.out (by omega)
          | (by_cases e : wd = 0 ∧ r = 0
             · exact HT.out e.1 e.2
             · exact HN.out e)
    · have hF : Hid (false = b) := Lib.hid (by rw [← HB.out]; exact (decide_eq_false (fun h' => by have := ((okC_iff _ _ _ _).1 h').2.2.2; omega)).symm)
      have h3 : i < 0 ∨ 256 ≤ i := by omega
      go_enter Try.func15, Try.ntmps15
      go_wp2_with fail
      refine (isBelow_no i 256 h3 _).mono ?_
      rintro e w1 ⟨rfl, hw⟩
      subst hw
      go_wp2_with fail
      go_ret
      exact ⟨ret_b hF.out, below_more (Below.refl _ _) _⟩
  by_cases h3 : c = 3
  · subst h3
    clear h1 h2
    by_cases h : (wd = 1 ∨ wd = 2 ∨ wd = 4) ∧ (0 ≤ i ∧ i ≤ 65535) ∧ i % wd = 0
    · have HA := Lib.hid (decide_eq_true h)
      obtain ⟨b2, hb2⟩ : ∃ b2, decide (0 ≤ r ∧ r < 4) = b2 := ⟨_, rfl⟩
      have HB2 := Lib.hid hb2
      have hF : Hid (b2 = b) := Lib.hid (by
        rw [← HB.out, ← hb2]
        exact decide_eq_decide.2 ⟨fun h' => (okD_iff _ _ _ _).2 ⟨h, by omega⟩, fun h' => by have := ((okD_iff _ _ _ _).1 h').2; omega⟩)
      clear h hb2
      go_enter Try.func15, Try.ntmps15
      go_wp2_with fail
      refine (isAccess_any i wd true HA.out _).mono ?_
      rintro e w1 ⟨rfl, hw⟩
      subst hw
      go_wp2_with fail
      refine (isBelow_any r 4 b2 HB2.out _).mono ?_
      rintro e w1 ⟨rfl, hw⟩
      subst hw
      go_wp2_with fail
      go_ret
      exact ⟨ret_b hF.out, below_more (Below.refl _ _) _⟩
    · have HA := Lib.hid (decide_eq_false h)
      have hF : Hid (false = b) := Lib.hid (by rw [← HB.out]; exact (decide_eq_false (fun h' => h ((okD_iff _ _ _ _).1 h').1)).symm)
      clear h
      go_enter Try.func15, Try.ntmps15
      go_wp2_with fail
      refine (isAccess_any i wd false HA.out _).mono ?_
      rintro e w1 ⟨rfl, hw⟩
      subst hw
      go_wp2_with fail
      go_ret
      exact ⟨ret_b hF.out, below_more (Below.refl _ _) _⟩
  by_cases h4 : c = 4 ∨ c = 5
  · have HT : Hid (wd = 0 → r = 0 → i = 0 → (!s) = b) := Lib.hid (fun e1 e2 e3 => by
      rw [← HB.out]
      cases s
      · exact (decide_eq_true ((okW_iff _ _ _ _ _ h4).2 ⟨e1, rfl, e2, e3⟩)).symm
      · exact (decide_eq_false (fun h => by have := ((okW_iff _ _ _ _ _ h4).1 h).2.1; cases this)).symm)
    have HN : Hid (¬ (wd = 0 ∧ r = 0 ∧ i = 0) → false = b) := Lib.hid (fun e => by
      rw [← HB.out]
      exact (decide_eq_false (fun h => e ⟨((okW_iff _ _ _ _ _ h4).1 h).1, ((okW_iff _ _ _ _ _ h4).1 h).2.2.1, ((okW_iff _ _ _ _ _ h4).1 h).2.2.2⟩)).symm)
    clear HB h1 h2 h3
    cases s
    all_goals
      rcases h4 with rfl | rfl
      all_goals
        go_enter Try.func15, Try.ntmps15
        go_wp2_with fail
        all_goals go_ret
        all_goals refine ⟨ret_b ?_, below_more (Below.refl _ _) _⟩
        all_goals first
          | exact HT.out (by omega) (by omega) (by omega)
          | exact HN.out (by omega)
          | (by_cases e : wd = 0 ∧ r = 0 ∧ i = 0
             · exact HT.out e.1 e.2.1 e.2.2
             · exact HN.out e)
  · have hF : Hid (false = b) := Lib.hid (by
      rw [← HB.out]
      refine (decide_eq_false (fun h' => ?_)).symm
      have := ok_cause h'
      simp only at this
      omega)
    have h5 : ¬ c = 4 := fun e => h4 (.inl e)
    have h6 : ¬ c = 5 := fun e => h4 (.inr e)
    clear h4
    go_enter Try.func15, Try.ntmps15
    go_wp2_with fail
    go_ret
    exact ⟨ret_b hF.out, below_more (Below.refl _ _) _⟩
end Go.Proofs.Ytaamjnpknmimmaa.L5
