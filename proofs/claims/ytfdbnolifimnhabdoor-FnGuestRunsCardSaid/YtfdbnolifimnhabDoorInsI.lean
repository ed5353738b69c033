/- What impl.IsInstruction answers. -/
import Derived.Test.YtfdbnolifimnhabDoorOp
namespace Go.Proofs.YtfdbnolifimnhabDoor.L3
open Go.RowKit Go.Proofs.YtfdbnolifimnhabDoor.Mem Go.Proofs.YtfdbnolifimnhabDoor.Own
set_option maxHeartbeats 1000000 in
theorem implIs_any (x : Ins) (w : World) (ho : OpsIs w) (b : Bool) (hb : decide (Ok x) = b) :
    Calls Tryd.prog 10 #[x.val] w fun e w' => e = .returned (.bool b) ∧ Below w.heap.size w w' := by
  have HB := Lib.hid hb
  have HO := Lib.hid ho
  clear hb ho
  obtain ⟨op, xa, xb, xn⟩ := x
  show Calls Tryd.prog 10 #[.agg #[.int .i64 op, .int .i64 xa, .int .i64 xb, .int .i64 xn]] w fun e w' => e = .returned (.bool b) ∧ Below w.heap.size w w'
  by_cases h : 0 ≤ op ∧ op < 10
  · obtain ⟨k, rfl⟩ := Int.eq_ofNat_of_zero_le h.1
    have hk : k < 10 := by omega
    have hG := HO.out.lt
    have c0 := HO.out k hk 0 _ rfl
    have c1 := HO.out k hk 1 _ rfl
    have c2 := HO.out k hk 2 _ rfl
    have c3 := HO.out k hk 3 _ rfl
    obtain ⟨s, hs⟩ : ∃ s, opName k = s := ⟨_, rfl⟩
    obtain ⟨p, hp⟩ : ∃ p, cntA k = p := ⟨_, rfl⟩
    obtain ⟨q, hq⟩ : ∃ q, cntB k = q := ⟨_, rfl⟩
    obtain ⟨r, hr⟩ : ∃ r, mostN k + 1 = r := ⟨_, rfl⟩
    rw [hs, Nat.add_zero] at c0
    rw [hp] at c1
    rw [hq] at c2
    rw [hr] at c3
    have HP := Lib.hid hp
    have HQ := Lib.hid hq
    have HR := Lib.hid hr
    clear hs hp hq hr
    obtain ⟨b1, hb1⟩ : ∃ b1, decide (0 ≤ xa ∧ xa < p) = b1 := ⟨_, rfl⟩
    obtain ⟨b2, hb2⟩ : ∃ b2, decide (0 ≤ xb ∧ xb < q) = b2 := ⟨_, rfl⟩
    obtain ⟨b3, hb3⟩ : ∃ b3, decide (0 ≤ xn ∧ xn < r) = b3 := ⟨_, rfl⟩
    have key : b = (b1 && (b2 && b3)) := by
      have h1 := HB.out
      have h2 := HP.out
      have h3 := HQ.out
      have h4 := HR.out
      subst hb1 hb2 hb3 h2 h3 h4
      rw [← h1, ← Bool.decide_and, ← Bool.decide_and]
      refine decide_eq_decide.2 ⟨fun h => ⟨h.2.1, h.2.2.1, ?_⟩, fun h' => ⟨⟨?_, ?_⟩, h'.1, h'.2.1, ?_⟩⟩
      · have := h.2.2.2; simp only at this; omega
      · simp only; omega
      · simp only; omega
      · have := h'.2.2; simp only; omega
    have HK := Lib.hid key
    have H1 := Lib.hid hb1
    have H2 := Lib.hid hb2
    have H3 := Lib.hid hb3
    clear key hb1 hb2 hb3
    go_enter Tryd.func10, Tryd.ntmps10
    go_wp2_with fail
    refine (isBelow_yes k 10 h.1 h.2 _).mono ?_
    rintro e w1 ⟨rfl, rfl⟩
    go_wp2_with fail
    refine (isBelow_any xa p b1 H1.out _).mono ?_
    rintro e w1 ⟨rfl, hw⟩
    subst hw
    cases b1
    · go_wp2_with fail
      go_ret
      rw [HK.out]
      exact ⟨rfl, below_more (below_more (Below.refl _ _) _) _⟩
    · go_wp2_with fail
      refine (isBelow_any xb q b2 H2.out _).mono ?_
      rintro e w1 ⟨rfl, hw⟩
      subst hw
      cases b2
      · go_wp2_with fail
        go_ret
        rw [HK.out]
        exact ⟨rfl, below_more (below_more (Below.refl _ _) _) _⟩
      · go_wp2_with fail
        refine (isBelow_any xn r b3 H3.out _).mono ?_
        rintro e w1 ⟨rfl, hw⟩
        subst hw
        cases b3
        · go_wp2_with fail
          go_ret
          rw [HK.out]
          exact ⟨rfl, below_more (below_more (Below.refl _ _) _) _⟩
        · go_wp2_with fail
          go_ret
          rw [HK.out]
          exact ⟨rfl, below_more (below_more (Below.refl _ _) _) _⟩
  · have hf : b = false := by
      rw [← HB.out]
      refine decide_eq_false fun h' => h ?_
      have := h'.1
      simp only at this
      omega
    have HF := Lib.hid hf
    clear hf
    go_enter Tryd.func10, Tryd.ntmps10
    go_wp2_with fail
    refine (isBelow_no op 10 (by omega) _).mono ?_
    rintro e w1 ⟨rfl, hw⟩
    subst hw
    go_wp2_with fail
    go_ret
    rw [HF.out]
    exact ⟨rfl, below_more (Below.refl _ _) _⟩
end Go.Proofs.YtfdbnolifimnhabDoor.L3
