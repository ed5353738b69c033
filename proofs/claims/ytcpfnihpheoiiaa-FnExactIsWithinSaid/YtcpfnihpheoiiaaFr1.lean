/- What spec.l2Good, spec.AreOwners, impl.isGuest and impl.AreOwners answer. -/
import Derived.Test.YtcpfnihpheoiiaaInts
import Derived.Test.YtcpfnihpheoiiaaIn
namespace Go.Proofs.Ytcpfnihpheoiiaa.Fra
open Go.RowKit Go.Proofs.Ytcpfnihpheoiiaa.Mem Go.Proofs.Ytcpfnihpheoiiaa.Own Go.Proofs.Ytcpfnihpheoiiaa.L1
/-- valid owners -/
def GoodOw (zs : List Int) : Prop := (∀ z ∈ zs, 0 ≤ z ∧ z ≤ 4) ∧ 1 ≤ zs.length ∧ zs.length ≤ 16
instance (zs : List Int) : Decidable (GoodOw zs) := by unfold GoodOw; infer_instance
theorem all_succ {zs : List Int} {k : Nat} {z : Int} {p : Int → Prop} (h : ∀ x ∈ zs.take k, p x) (hz : zs[k]? = some z) (hp : p z) : ∀ x ∈ zs.take (k + 1), p x := by
  intro x hx
  rw [List.take_add_one, hz] at hx
  rcases List.mem_append.1 hx with h1 | h1
  · exact h x h1
  · simp at h1; subst h1; exact hp
theorem not_good {zs : List Int} {k : Nat} {z : Int} (hz : zs[k]? = some z) (hp : z < 0 ∨ 4 < z) : ¬ GoodOw zs := by
  intro h
  have := h.1 z (List.mem_of_getElem? hz)
  omega
set_option maxHeartbeats 1000000 in
theorem l2Good_any (A : Option Addr) (n c B : Nat) (zs : List Int) (w : World) (hr : Reads w B 1 A n (I zs)) (hn : n ≤ 1048576) (b : Bool) (hb : decide (GoodOw zs) = b) :
    Calls Try.prog 66 #[.slice A n c] w fun e w' => e = .returned (.bool b) ∧ w = w' := by
  have HL : Hid (zs.length = n) := Lib.hid (by have := hr.len; simpa [I] using this)
  have HB := Lib.hid hb
  clear hb
  go_enter Try.func66, Try.ntmps66
  go_wp2
  go_loop [3] (fun i => ∃ (k : Nat), i = .int .i64 k ∧ k ≤ n ∧ Hid (∀ z ∈ zs.take k, 0 ≤ z ∧ z ≤ 4)) (fun i => n - (intOf i).toNat)
  case atStart => exact ⟨0, rfl, Nat.zero_le _, Lib.hid (by simp)⟩
  case round =>
    obtain ⟨k, rfl, hk, HK⟩ := hrel
    by_cases hlt : k < n
    · obtain ⟨b1, o1, z, rfl, _, hu, hc⟩ := hr.int_at hlt
      by_cases hz : 0 ≤ z ∧ z ≤ 4
      · have HK2 := Lib.hid (all_succ HK.out hu hz)
        clear hu HK
        go_wp2_with (go_at_call 79; refine (l1In_yes z 0 4 hz.1 hz.2 _).mono ?_; rintro e w1 ⟨rfl, rfl⟩)
        go_round
        case rel => exact ⟨k + 1, by go_num, by omega, HK2⟩
        case measure => simp [intOf]; omega
      · have hz' : z < 0 ∨ 4 < z := by omega
        have hbf : b = false := by rw [← HB.out]; exact decide_eq_false (not_good hu hz')
        have HX := Lib.hid hbf
        clear hu HK hbf
        go_wp2_with (go_at_call 79; refine (l1In_no z 0 4 hz' _).mono ?_; rintro e w1 ⟨rfl, rfl⟩)
        go_ret
        rw [HX.out]
        exact ⟨rfl, rfl⟩
    · have hkn : k = n := by omega
      have hall : ∀ z ∈ zs, 0 ≤ z ∧ z ≤ 4 := by have h := HK.out; rwa [List.take_of_length_le (by rw [HL.out]; omega)] at h
      by_cases h1 : 1 ≤ n ∧ n ≤ 16
      · have hbt : b = true := by rw [← HB.out]; exact decide_eq_true ⟨hall, by rw [HL.out]; exact h1.1, by rw [HL.out]; exact h1.2⟩
        have HX := Lib.hid hbt
        clear hall HK hbt
        go_wp2_with (go_at_call 79; refine (l1In_yes n 1 16 (by omega) (by omega) _).mono ?_; rintro e w1 ⟨rfl, rfl⟩)
        go_ret
        rw [HX.out]
        exact ⟨rfl, rfl⟩
      · have hbf : b = false := by rw [← HB.out]; refine decide_eq_false fun h => h1 ?_; have := h.2; rw [HL.out] at this; exact this
        have HX := Lib.hid hbf
        clear hall HK hbf
        go_wp2_with (go_at_call 79; refine (l1In_no n 1 16 (by omega) _).mono ?_; rintro e w1 ⟨rfl, rfl⟩)
        go_ret
        rw [HX.out]
        exact ⟨rfl, rfl⟩
theorem isGuest_any (x : Int) (b : Bool) (hb : decide (1 ≤ x ∧ x ≤ 4) = b) (w : World) :
    Calls Try.prog 71 #[.int .i64 x] w fun e w' => e = .returned (.bool b) ∧ w = w' := by
  by_cases h1 : 1 ≤ x
  · by_cases h2 : x ≤ 4
    · have HX : Hid (b = true) := Lib.hid (by rw [← hb]; exact decide_eq_true ⟨h1, h2⟩)
      clear hb
      go_enter Try.func71, Try.ntmps71
      go_wp2
      go_ret
      rw [HX.out]
      exact ⟨rfl, rfl⟩
    · have HX : Hid (b = false) := Lib.hid (by rw [← hb]; exact decide_eq_false (by omega))
      have h3 : decide (x ≤ 4) = false := decide_eq_false h2
      clear hb
      go_enter Try.func71, Try.ntmps71
      go_wp2
      go_ret
      rw [HX.out]
      exact ⟨rfl, rfl⟩
  · have HX : Hid (b = false) := Lib.hid (by rw [← hb]; exact decide_eq_false (by omega))
    clear hb
    go_enter Try.func71, Try.ntmps71
    go_wp2
    go_ret
    rw [HX.out]
    exact ⟨rfl, rfl⟩
set_option maxHeartbeats 1000000 in
theorem implAreOwners_any (A : Option Addr) (n c B : Nat) (zs : List Int) (w : World) (hr : Reads w B 1 A n (I zs)) (hn : n ≤ 1048576) (b : Bool) (hb : decide (GoodOw zs) = b) :
    Calls Try.prog 70 #[.slice A n c] w fun e w' => e = .returned (.bool b) ∧ w = w' := by
  have HL : Hid (zs.length = n) := Lib.hid (by have := hr.len; simpa [I] using this)
  have HB := Lib.hid hb
  clear hb
  by_cases h1 : 1 ≤ n
  case neg =>
    have HX : Hid (b = false) := Lib.hid (by rw [← HB.out]; refine decide_eq_false fun h => h1 ?_; have := h.2.1; rw [HL.out] at this; exact this)
    clear hr
    go_enter Try.func70, Try.ntmps70
    go_wp2
    go_ret
    rw [HX.out]
    exact ⟨rfl, rfl⟩
  by_cases h2 : n ≤ 16
  case neg =>
    have HX : Hid (b = false) := Lib.hid (by rw [← HB.out]; refine decide_eq_false fun h => h2 ?_; have := h.2.2; rw [HL.out] at this; exact this)
    clear hr
    go_enter Try.func70, Try.ntmps70
    go_wp2
    go_ret
    rw [HX.out]
    exact ⟨rfl, rfl⟩
  have h2' : ¬ (16 : Int) < (n : Int) := by omega
  go_enter Try.func70, Try.ntmps70
  go_wp2
  go_loop [15] (fun i => ∃ (k : Nat), i = .int .i64 k ∧ k ≤ n ∧ Hid (∀ z ∈ zs.take k, 0 ≤ z ∧ z ≤ 4)) (fun i => n - (intOf i).toNat)
  case atStart => exact ⟨0, rfl, Nat.zero_le _, Lib.hid (by simp)⟩
  case round =>
    obtain ⟨k, rfl, hk, HK⟩ := hrel
    by_cases hlt : k < n
    · obtain ⟨b1, o1, z, rfl, _, hu, hc⟩ := hr.int_at hlt
      by_cases h0 : z = 0
      · subst h0
        have HK2 := Lib.hid (all_succ HK.out hu (by omega))
        clear hu HK
        go_wp2
        go_round
        case rel => exact ⟨k + 1, by go_num, by omega, HK2⟩
        case measure => simp [intOf]; omega
      · have t1 : (z == 0) = false := by simpa using h0
        have t2 : (z != 0) = true := by simp only [bne, t1, Bool.not_false]
        by_cases hz : 1 ≤ z ∧ z ≤ 4
        · have HK2 := Lib.hid (all_succ HK.out hu (by omega))
          clear hu HK
          go_wp2_with (go_at_call 71; refine (isGuest_any z true (decide_eq_true hz) _).mono ?_; rintro e w1 ⟨rfl, rfl⟩)
          go_round
          case rel => exact ⟨k + 1, by go_num, by omega, HK2⟩
          case measure => simp [intOf]; omega
        · have hbf : b = false := by rw [← HB.out]; exact decide_eq_false (not_good hu (by omega))
          have HX := Lib.hid hbf
          clear hu HK hbf
          go_wp2_with (go_at_call 71; refine (isGuest_any z false (decide_eq_false hz) _).mono ?_; rintro e w1 ⟨rfl, rfl⟩)
          go_ret
          rw [HX.out]
          exact ⟨rfl, rfl⟩
    · have hkn : k = n := by omega
      have hall : ∀ z ∈ zs, 0 ≤ z ∧ z ≤ 4 := by have h := HK.out; rwa [List.take_of_length_le (by rw [HL.out]; omega)] at h
      have hbt : b = true := by rw [← HB.out]; exact decide_eq_true ⟨hall, by rw [HL.out]; exact h1, by rw [HL.out]; exact h2⟩
      have HX := Lib.hid hbt
      clear hall HK hbt
      go_wp2
      go_ret
      rw [HX.out]
      exact ⟨rfl, rfl⟩
end Go.Proofs.Ytcpfnihpheoiiaa.Fra
