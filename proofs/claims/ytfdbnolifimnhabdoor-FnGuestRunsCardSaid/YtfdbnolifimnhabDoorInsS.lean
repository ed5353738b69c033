/- What spec.l3Uses, spec.l3One and spec.IsInstruction answer. -/
import Derived.Test.YtfdbnolifimnhabDoorInsE
import Derived.Test.YtfdbnolifimnhabDoorIn
namespace Go.Proofs.YtfdbnolifimnhabDoor.L3
open Go.RowKit Go.Proofs.YtfdbnolifimnhabDoor.Mem Go.Proofs.YtfdbnolifimnhabDoor.Own Go.Proofs.YtfdbnolifimnhabDoor.L1
theorem l1In_any (x a b : Int) (r : Bool) (hr : decide (a ≤ x ∧ x ≤ b) = r) (w : World) :
    Calls Tryd.prog 57 #[.int .i64 x, .int .i64 a, .int .i64 b] w fun e w' => e = .returned (.bool r) ∧ w = w' := by
  subst hr
  by_cases h : a ≤ x ∧ x ≤ b
  · rw [decide_eq_true h]; exact l1In_yes x a b h.1 h.2 w
  · rw [decide_eq_false h]; exact l1In_no x a b (by omega) w
def useA (op : Int) : Bool := decide (1 ≤ op ∧ op ≤ 6)
def useB (op : Int) : Bool := decide (2 ≤ op ∧ op ≤ 5)
def useN (op : Int) : Bool := decide (op = 1 ∨ (6 ≤ op ∧ op ≤ 9))
theorem results_tmp4 {fn : Func} {t u v x : Tmp} (h : fn.results = #[.tmp t, .tmp u, .tmp v, .tmp x]) (tmps : Array Value) (P : Program) (w : World) :
    (results fn tmps).run P w = .ok (.tuple #[tmps.getD t undef, tmps.getD u undef, tmps.getD v undef, tmps.getD x undef]) w := by
  simp [results, h]
set_option maxHeartbeats 1000000 in
theorem l3Uses_any (op : Int) (h0 : 0 ≤ op) (h1 : op ≤ 9) (w : World) :
    Calls Tryd.prog 47 #[.int .i64 op] w fun e w' => e = .returned (.tuple #[.bool (useA op), .bool (useB op), .bool (useN op), .int .i64 (mostN op)]) ∧ w = w' := by
  have H := ops h0 h1
  clear h0 h1
  rcases H with rfl | rfl | rfl | rfl | rfl | rfl | rfl | rfl | rfl | rfl
  all_goals
    go_enter Tryd.func47, Tryd.ntmps47
    go_wp2
    refine bodyPost_ret (results_tmp4 rfl _ _ _) rfl ?_
    exact ⟨rfl, rfl⟩
set_option maxHeartbeats 2000000 in
theorem l3One_any (x : Ins) (w : World) (b : Bool) (hb : decide (Ok x) = b) :
    Calls Tryd.prog 35 #[x.val] w fun e w' => e = .returned (.bool b) ∧ Below w.heap.size w w' := by
  have HB := Lib.hid hb
  clear hb
  obtain ⟨op, xa, xb, xn⟩ := x
  show Calls Tryd.prog 35 #[.agg #[.int .i64 op, .int .i64 xa, .int .i64 xb, .int .i64 xn]] w fun e w' => e = .returned (.bool b) ∧ Below w.heap.size w w'
  by_cases h : (0 ≤ op ∧ op ≤ 9) ∧ (0 ≤ xa ∧ xa ≤ 3) ∧ (0 ≤ xb ∧ xb ≤ 3)
  · obtain ⟨h1, h2, h3⟩ := h
    obtain ⟨u, hu⟩ : ∃ u, useA op = u := ⟨_, rfl⟩
    obtain ⟨v, hv⟩ : ∃ v, useB op = v := ⟨_, rfl⟩
    obtain ⟨b4, hb4⟩ : ∃ b4, decide (0 ≤ xn ∧ xn ≤ mostN op) = b4 := ⟨_, rfl⟩
    have key : b = ((u || decide (xa = 0)) && ((v || decide (xb = 0)) && b4)) := by
      have hB := HB.out
      subst hu hv hb4 hB
      unfold useA useB
      rw [← Bool.decide_or, ← Bool.decide_or, ← Bool.decide_and, ← Bool.decide_and]
      refine decide_eq_decide.2 ?_
      unfold Ok cntA cntB
      simp only
      constructor
      · rintro ⟨_, ha, hb, hc⟩
        refine ⟨?_, ?_, hc⟩
        · split at ha
          · left; assumption
          · right; omega
        · split at hb
          · left; assumption
          · right; omega
      · rintro ⟨ha, hb, hc⟩
        refine ⟨h1, ⟨h2.1, ?_⟩, ⟨h3.1, ?_⟩, hc⟩
        · split <;> omega
        · split <;> omega
    have HK := Lib.hid key
    have HU := Lib.hid hu
    have HV := Lib.hid hv
    have H4 := Lib.hid hb4
    clear key hu hv hb4
    go_enter Tryd.func35, Tryd.ntmps35
    go_wp2_with fail
    refine (l1In_yes op 0 9 h1.1 h1.2 _).mono ?_
    rintro e w1 ⟨rfl, hw⟩
    subst hw
    go_wp2_with fail
    refine (l1In_yes xa 0 3 h2.1 h2.2 _).mono ?_
    rintro e w1 ⟨rfl, hw⟩
    subst hw
    go_wp2_with fail
    refine (l1In_yes xb 0 3 h3.1 h3.2 _).mono ?_
    rintro e w1 ⟨rfl, hw⟩
    subst hw
    go_wp2_with fail
    refine (l3Uses_any op h1.1 h1.2 _).mono ?_
    rintro e w1 ⟨rfl, hw⟩
    subst hw
    rw [HU.out, HV.out]
    cases u
    · by_cases ha : xa = 0
      · subst ha
        cases v
        · by_cases hb : xb = 0
          · subst hb
            go_wp2_with fail
            refine (l1In_any xn 0 (mostN op) b4 H4.out _).mono ?_
            rintro e w1 ⟨rfl, hw⟩
            subst hw
            cases b4
            · go_wp2_with fail
              go_ret
              rw [HK.out]
              exact ⟨by simp, below_more (Below.refl _ _) _⟩
            · go_wp2_with fail
              go_ret
              rw [HK.out]
              exact ⟨by simp, below_more (Below.refl _ _) _⟩
          · have HN : Hid (decide (xb = 0) = false) := Lib.hid (decide_eq_false hb)
            go_wp2_with fail
            go_ret
            rw [HK.out, HN.out]
            exact ⟨by simp, below_more (Below.refl _ _) _⟩
        ·
          go_wp2_with fail
          refine (l1In_any xn 0 (mostN op) b4 H4.out _).mono ?_
          rintro e w1 ⟨rfl, hw⟩
          subst hw
          cases b4
          · go_wp2_with fail
            go_ret
            rw [HK.out]
            exact ⟨by simp, below_more (Below.refl _ _) _⟩
          · go_wp2_with fail
            go_ret
            rw [HK.out]
            exact ⟨by simp, below_more (Below.refl _ _) _⟩
      · have HN : Hid (decide (xa = 0) = false) := Lib.hid (decide_eq_false ha)
        go_wp2_with fail
        go_ret
        rw [HK.out, HN.out]
        exact ⟨by simp, below_more (Below.refl _ _) _⟩
    ·
      cases v
      · by_cases hb : xb = 0
        · subst hb
          go_wp2_with fail
          refine (l1In_any xn 0 (mostN op) b4 H4.out _).mono ?_
          rintro e w1 ⟨rfl, hw⟩
          subst hw
          cases b4
          · go_wp2_with fail
            go_ret
            rw [HK.out]
            exact ⟨by simp, below_more (Below.refl _ _) _⟩
          · go_wp2_with fail
            go_ret
            rw [HK.out]
            exact ⟨by simp, below_more (Below.refl _ _) _⟩
        · have HN : Hid (decide (xb = 0) = false) := Lib.hid (decide_eq_false hb)
          go_wp2_with fail
          go_ret
          rw [HK.out, HN.out]
          exact ⟨by simp, below_more (Below.refl _ _) _⟩
      ·
        go_wp2_with fail
        refine (l1In_any xn 0 (mostN op) b4 H4.out _).mono ?_
        rintro e w1 ⟨rfl, hw⟩
        subst hw
        cases b4
        · go_wp2_with fail
          go_ret
          rw [HK.out]
          exact ⟨by simp, below_more (Below.refl _ _) _⟩
        · go_wp2_with fail
          go_ret
          rw [HK.out]
          exact ⟨by simp, below_more (Below.refl _ _) _⟩
  · have hf : b = false := by
      rw [← HB.out]
      refine decide_eq_false fun h' => h ⟨h'.1, ?_, ?_⟩
      · have h1 := h'.2.1
        have h2 := cntA_le op
        simp only at h1
        omega
      · have h1 := h'.2.2.1
        have h2 := cntB_le op
        simp only at h1
        omega
    have HF := Lib.hid hf
    clear hf
    by_cases h1 : 0 ≤ op ∧ op ≤ 9
    · by_cases h2 : 0 ≤ xa ∧ xa ≤ 3
      · have h3 : xb < 0 ∨ 3 < xb := by omega
        go_enter Tryd.func35, Tryd.ntmps35
        go_wp2_with fail
        refine (l1In_yes op 0 9 h1.1 h1.2 _).mono ?_
        rintro e w1 ⟨rfl, hw⟩
        subst hw
        go_wp2_with fail
        refine (l1In_yes xa 0 3 h2.1 h2.2 _).mono ?_
        rintro e w1 ⟨rfl, hw⟩
        subst hw
        go_wp2_with fail
        refine (l1In_no xb 0 3 h3 _).mono ?_
        rintro e w1 ⟨rfl, hw⟩
        subst hw
        go_wp2_with fail
        go_ret
        rw [HF.out]
        exact ⟨rfl, below_more (Below.refl _ _) _⟩
      · go_enter Tryd.func35, Tryd.ntmps35
        go_wp2_with fail
        refine (l1In_yes op 0 9 h1.1 h1.2 _).mono ?_
        rintro e w1 ⟨rfl, hw⟩
        subst hw
        go_wp2_with fail
        refine (l1In_no xa 0 3 (by omega) _).mono ?_
        rintro e w1 ⟨rfl, hw⟩
        subst hw
        go_wp2_with fail
        go_ret
        rw [HF.out]
        exact ⟨rfl, below_more (Below.refl _ _) _⟩
    · go_enter Tryd.func35, Tryd.ntmps35
      go_wp2_with fail
      refine (l1In_no op 0 9 (by omega) _).mono ?_
      rintro e w1 ⟨rfl, hw⟩
      subst hw
      go_wp2_with fail
      go_ret
      rw [HF.out]
      exact ⟨rfl, below_more (Below.refl _ _) _⟩
end Go.Proofs.YtfdbnolifimnhabDoor.L3
