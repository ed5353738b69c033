/- What spec.l1Read answers: the number whose decimal numeral the text is, if there is one. -/
import Derived.Test.YtadpjkghfgnbbaaDoorRead0
import Derived.Test.YtadpjkghfgnbbaaDoorIn
import Derived.Test.YtadpjkghfgnbbaaDoorL1Pure
namespace Go.Proofs.YtadpjkghfgnbbaaDoor.L1
open Go.RowKit
theorem dval_step (t : ByteArray) (k : Nat) (h : k < t.size) (hd : 48 ≤ t[k].toNat) : (dval 0 (t.data.toList.take (k + 1)) : Int) = 10 * (dval 0 (t.data.toList.take k) : Int) + ((t[k].toNat : Int) - 48) := by
  rw [take_snoc t k h, dval_snoc]; omega
theorem digits_step (t : ByteArray) (k : Nat) (h : k < t.size) (h0 : ∀ c ∈ t.data.toList.take k, 48 ≤ c.toNat ∧ c.toNat ≤ 57) (hd : 48 ≤ t[k].toNat ∧ t[k].toNat ≤ 57) : ∀ c ∈ t.data.toList.take (k + 1), 48 ≤ c.toNat ∧ c.toNat ≤ 57 := by
  intro c hc
  rw [take_snoc t k h, List.mem_append] at hc
  rcases hc with hc | hc
  · exact h0 c hc
  · simp only [List.mem_singleton] at hc; rw [hc]; exact hd
theorem dval_le6 (t : ByteArray) (k : Nat) (hk : k ≤ 6) (h0 : ∀ c ∈ t.data.toList.take k, 48 ≤ c.toNat ∧ c.toNat ≤ 57) : dval 0 (t.data.toList.take k) ≤ 999999 := by
  have h1 := dval_lt _ h0
  have h2 : (t.data.toList.take k).length ≤ 6 := by rw [List.length_take]; omega
  have h3 : 10 ^ (t.data.toList.take k).length ≤ 10 ^ 6 := Nat.pow_le_pow_right (by omega) h2
  omega
theorem strip_pos {s : ByteArray} (h : s.size ≤ 1 ∨ ∃ h : 0 < s.size, s[0] ≠ 45) : Strip s s false := by
  refine .inr ⟨rfl, rfl, fun c l hs hc => ?_⟩
  rcases h with h | ⟨h0, h⟩
  · have : s.data.toList.length ≤ 1 := h
    rw [hs] at this
    simpa using this
  · exfalso
    apply h
    have e : s[0] = s.data.toList[0]'(by simpa using h0) := rfl
    rw [e]; simp only [hs, List.getElem_cons_zero]; exact hc
theorem strip_neg {s : ByteArray} (h1 : 1 < s.size) (h : s[0] = 45) : Strip s (s.extract 1 s.size) true := by
  refine .inl ⟨rfl, h1, ?_⟩
  have e : (s.extract 1 s.size).data.toList = s.data.toList.drop 1 := by
    rw [ByteArray.data_extract]
    simp only [Array.toList_extract, List.extract_eq_take_drop]
    rw [List.take_of_length_le]
    simp
  rw [e]
  have e2 : s[0] = s.data.toList[0]'(by simpa using (by omega : 0 < s.size)) := rfl
  rw [e2] at h
  cases hs : s.data.toList with
  | nil =>
    have e3 : s.data.toList.length = s.size := rfl
    rw [hs] at e3
    simp at e3
    omega
  | cons c l => simp only [hs, List.getElem_cons_zero] at h; rw [h]; rfl
set_option maxHeartbeats 1000000 in
theorem l1Read_neg (s : ByteArray) (r : Int) (b : Bool) (hr : ReadIs s r b) (w : World) (hs : s.size ≤ 1048576) (hs1 : 1 < s.size) (h0 : s[0] = 45) :
    Calls Tryd.prog 22 #[.string s] w fun e w' => e = .returned (.tuple #[.int .i64 r, .bool b]) ∧ ∃ j, w' = w.drewN j := by
  have hst := strip_neg hs1 h0
  have t0 : ((s[0].toNat : Int) == 45) = true := by rw [h0]; rfl
  clear h0
  obtain ⟨t, ht⟩ : ∃ t, s.extract 1 s.size = t := ⟨_, rfl⟩
  rw [ht] at hst
  have htz : t.size + 1 = s.size := by rw [← ht, ByteArray.size_extract]; omega
  have HT := Lib.hid ht
  clear ht
  go_enter Tryd.func22, Tryd.ntmps22
  go_wp2_with fail
  have ht := HT.out
  simp only [ht]
  clear ht
  by_cases hl : 1 ≤ t.size ∧ t.size ≤ 6
  · obtain ⟨hl1, hl2⟩ := hl
    go_wp2_with (first | (go_at_call 25; ((with_reducible refine (l1In_yes _ _ _ (by omega) (by omega) _).mono ?_); rintro e w1 ⟨rfl, rfl⟩)))
    go_loop [5, 6] (fun n i => ∃ k : Nat, k ≤ t.size ∧ i = .int .i64 k ∧ n = .int .i64 (dval 0 (t.data.toList.take k) : Nat) ∧ Hid (∀ c ∈ t.data.toList.take k, 48 ≤ c.toNat ∧ c.toNat ≤ 57)) (fun _ i => t.size - (intOf i).toNat)
    case atStart => exact ⟨0, Nat.zero_le _, rfl, rfl, Lib.hid (by simp)⟩
    case round =>
      obtain ⟨k, hk, rfl, rfl, HD⟩ := hrel
      have hb := dval_le6 t k (by omega) HD.out
      by_cases hlt : k < t.size
      · by_cases hd : 48 ≤ t[k].toNat ∧ t[k].toNat ≤ 57
        · have HS := Lib.hid (dval_step t k hlt hd.1)
          have HD2 := Lib.hid (digits_step t k hlt HD.out hd)
          obtain ⟨a, ha⟩ : ∃ a, dval 0 (t.data.toList.take k) = a := ⟨_, rfl⟩
          rw [ha] at hb HS ⊢
          clear ha
          obtain ⟨d1, d2⟩ := hd
          go_wp2_with fail
          all_goals
            go_round
            case rel => exact ⟨k + 1, by omega, by go_num, by rw [HS.out], HD2⟩
            case measure => simp [intOf]; omega
        · have hx := read_digit hst hr hlt (by omega)
          have HX := Lib.hid hx
          clear hx
          by_cases hd1 : t[k].toNat < 48
          · clear hd
            go_wp2_with fail
            go_ret2
            rw [HX.out.1, HX.out.2]
            exact ⟨rfl, ⟨0, rfl⟩⟩
          · have hd2 : 57 < t[k].toNat := by omega
            have hd3 : 48 ≤ t[k].toNat := by omega
            clear hd hd1
            go_wp2_with fail
            go_ret2
            rw [HX.out.1, HX.out.2]
            exact ⟨rfl, ⟨0, rfl⟩⟩
      · have hall := take_all t k (by omega)
        rw [hall] at HD hb ⊢
        have hv := read_val hst hr hl2 HD.out
        clear hall
        simp only [if_true] at hv
        obtain ⟨hv1, hv2⟩ := hv
        rcases hv2 with ⟨hv2, hv3, hv4⟩ | ⟨hv2, hv3, hv4⟩
        · have t1 : ((NumB (-(dval 0 t.data.toList : Int))).toList == s.toList) = true := by rw [hv2]; simp
          have H3 := Lib.hid hv3
          have H4 := Lib.hid hv4
          clear hv2 hv3 hv4
          go_wp2_with (first | (go_at_call 29; ((with_reducible refine (l1Num_int (-(dval 0 t.data.toList : Int)) (by omega) (by omega) _).mono ?_); rintro e w1 ⟨rfl, j, rfl⟩)))
          go_ret2
          rw [H3.out, H4.out]
          exact ⟨rfl, ⟨j, rfl⟩⟩
        · have t1 : ((NumB (-(dval 0 t.data.toList : Int))).toList == s.toList) = false := toList_ne hv2
          have H3 := Lib.hid hv3
          have H4 := Lib.hid hv4
          clear hv2 hv3 hv4
          go_wp2_with (first | (go_at_call 29; ((with_reducible refine (l1Num_int (-(dval 0 t.data.toList : Int)) (by omega) (by omega) _).mono ?_); rintro e w1 ⟨rfl, j, rfl⟩)))
          go_ret2
          rw [H3.out, H4.out]
          exact ⟨rfl, ⟨j, rfl⟩⟩
  · have hx := read_len hst hr (by omega)
    have HX := Lib.hid hx
    have hl' : t.size < 1 ∨ 6 < t.size := by omega
    have hl'' : (t.size : Int) < 1 ∨ 6 < (t.size : Int) := by omega
    clear hx hl
    go_wp2_with (first | (go_at_call 25; ((with_reducible refine (l1In_no _ _ _ (by omega) _).mono ?_); rintro e w1 ⟨rfl, rfl⟩)))
    go_ret2
    rw [HX.out.1, HX.out.2]
    exact ⟨rfl, ⟨0, rfl⟩⟩
set_option maxHeartbeats 1000000 in
theorem l1Read_pos (s : ByteArray) (r : Int) (b : Bool) (hr : ReadIs s r b) (w : World) (hs : s.size ≤ 1048576) (h1 : 1 < s.size) (t0 : ((s[0].toNat : Int) == 45) = false) (hst : Strip s s false) :
    Calls Tryd.prog 22 #[.string s] w fun e w' => e = .returned (.tuple #[.int .i64 r, .bool b]) ∧ ∃ j, w' = w.drewN j := by
  go_enter Tryd.func22, Tryd.ntmps22
  go_wp2_with fail
  by_cases hl : 1 ≤ s.size ∧ s.size ≤ 6
  · obtain ⟨hl1, hl2⟩ := hl
    go_wp2_with (first | (go_at_call 25; ((with_reducible refine (l1In_yes _ _ _ (by omega) (by omega) _).mono ?_); rintro e w1 ⟨rfl, rfl⟩)))
    go_loop [5, 6] (fun n i => ∃ k : Nat, k ≤ s.size ∧ i = .int .i64 k ∧ n = .int .i64 (dval 0 (s.data.toList.take k) : Nat) ∧ Hid (∀ c ∈ s.data.toList.take k, 48 ≤ c.toNat ∧ c.toNat ≤ 57)) (fun _ i => s.size - (intOf i).toNat)
    case atStart => exact ⟨0, Nat.zero_le _, rfl, rfl, Lib.hid (by simp)⟩
    case round =>
      obtain ⟨k, hk, rfl, rfl, HD⟩ := hrel
      have hb := dval_le6 s k (by omega) HD.out
      by_cases hlt : k < s.size
      · by_cases hd : 48 ≤ s[k].toNat ∧ s[k].toNat ≤ 57
        · have HS := Lib.hid (dval_step s k hlt hd.1)
          have HD2 := Lib.hid (digits_step s k hlt HD.out hd)
          obtain ⟨a, ha⟩ : ∃ a, dval 0 (s.data.toList.take k) = a := ⟨_, rfl⟩
          rw [ha] at hb HS ⊢
          clear ha
          obtain ⟨d1, d2⟩ := hd
          go_wp2_with fail
          all_goals
            go_round
            case rel => exact ⟨k + 1, by omega, by go_num, by rw [HS.out], HD2⟩
            case measure => simp [intOf]; omega
        · have hx := read_digit hst hr hlt (by omega)
          have HX := Lib.hid hx
          clear hx
          by_cases hd1 : s[k].toNat < 48
          · clear hd
            go_wp2_with fail
            go_ret2
            rw [HX.out.1, HX.out.2]
            exact ⟨rfl, ⟨0, rfl⟩⟩
          · have hd2 : 57 < s[k].toNat := by omega
            have hd3 : 48 ≤ s[k].toNat := by omega
            clear hd hd1
            go_wp2_with fail
            go_ret2
            rw [HX.out.1, HX.out.2]
            exact ⟨rfl, ⟨0, rfl⟩⟩
      · have hall := take_all s k (by omega)
        rw [hall] at HD hb ⊢
        have hv := read_val hst hr hl2 HD.out
        clear hall
        simp only [Bool.false_eq_true, if_false] at hv
        obtain ⟨hv1, hv2⟩ := hv
        rcases hv2 with ⟨hv2, hv3, hv4⟩ | ⟨hv2, hv3, hv4⟩
        · have t1 : ((NumB (dval 0 s.data.toList : Int)).toList == s.toList) = true := by rw [hv2]; simp
          have H3 := Lib.hid hv3
          have H4 := Lib.hid hv4
          clear hv2 hv3 hv4
          go_wp2_with (first | (go_at_call 29; ((with_reducible refine (l1Num_int (dval 0 s.data.toList : Int) (by omega) (by omega) _).mono ?_); rintro e w1 ⟨rfl, j, rfl⟩)))
          go_ret2
          rw [H3.out, H4.out]
          exact ⟨rfl, ⟨j, rfl⟩⟩
        · have t1 : ((NumB (dval 0 s.data.toList : Int)).toList == s.toList) = false := toList_ne hv2
          have H3 := Lib.hid hv3
          have H4 := Lib.hid hv4
          clear hv2 hv3 hv4
          go_wp2_with (first | (go_at_call 29; ((with_reducible refine (l1Num_int (dval 0 s.data.toList : Int) (by omega) (by omega) _).mono ?_); rintro e w1 ⟨rfl, j, rfl⟩)))
          go_ret2
          rw [H3.out, H4.out]
          exact ⟨rfl, ⟨j, rfl⟩⟩
  · have hx := read_len hst hr (by omega)
    have HX := Lib.hid hx
    have hl' : s.size < 1 ∨ 6 < s.size := by omega
    have hl'' : (s.size : Int) < 1 ∨ 6 < (s.size : Int) := by omega
    clear hx hl
    go_wp2_with (first | (go_at_call 25; ((with_reducible refine (l1In_no _ _ _ (by omega) _).mono ?_); rintro e w1 ⟨rfl, rfl⟩)))
    go_ret2
    rw [HX.out.1, HX.out.2]
    exact ⟨rfl, ⟨0, rfl⟩⟩
set_option maxHeartbeats 1000000 in
theorem l1Read_one (s : ByteArray) (r : Int) (b : Bool) (hr : ReadIs s r b) (w : World) (hs : s.size ≤ 1048576) (h1 : s.size ≤ 1) (hst : Strip s s false) :
    Calls Tryd.prog 22 #[.string s] w fun e w' => e = .returned (.tuple #[.int .i64 r, .bool b]) ∧ ∃ j, w' = w.drewN j := by
  go_enter Tryd.func22, Tryd.ntmps22
  go_wp2_with fail
  by_cases hl : 1 ≤ s.size ∧ s.size ≤ 6
  · obtain ⟨hl1, hl2⟩ := hl
    go_wp2_with (first | (go_at_call 25; ((with_reducible refine (l1In_yes _ _ _ (by omega) (by omega) _).mono ?_); rintro e w1 ⟨rfl, rfl⟩)))
    go_loop [5, 6] (fun n i => ∃ k : Nat, k ≤ s.size ∧ i = .int .i64 k ∧ n = .int .i64 (dval 0 (s.data.toList.take k) : Nat) ∧ Hid (∀ c ∈ s.data.toList.take k, 48 ≤ c.toNat ∧ c.toNat ≤ 57)) (fun _ i => s.size - (intOf i).toNat)
    case atStart => exact ⟨0, Nat.zero_le _, rfl, rfl, Lib.hid (by simp)⟩
    case round =>
      obtain ⟨k, hk, rfl, rfl, HD⟩ := hrel
      have hb := dval_le6 s k (by omega) HD.out
      by_cases hlt : k < s.size
      · by_cases hd : 48 ≤ s[k].toNat ∧ s[k].toNat ≤ 57
        · have HS := Lib.hid (dval_step s k hlt hd.1)
          have HD2 := Lib.hid (digits_step s k hlt HD.out hd)
          obtain ⟨a, ha⟩ : ∃ a, dval 0 (s.data.toList.take k) = a := ⟨_, rfl⟩
          rw [ha] at hb HS ⊢
          clear ha
          obtain ⟨d1, d2⟩ := hd
          go_wp2_with fail
          all_goals
            go_round
            case rel => exact ⟨k + 1, by omega, by go_num, by rw [HS.out], HD2⟩
            case measure => simp [intOf]; omega
        · have hx := read_digit hst hr hlt (by omega)
          have HX := Lib.hid hx
          clear hx
          by_cases hd1 : s[k].toNat < 48
          · clear hd
            go_wp2_with fail
            go_ret2
            rw [HX.out.1, HX.out.2]
            exact ⟨rfl, ⟨0, rfl⟩⟩
          · have hd2 : 57 < s[k].toNat := by omega
            have hd3 : 48 ≤ s[k].toNat := by omega
            clear hd hd1
            go_wp2_with fail
            go_ret2
            rw [HX.out.1, HX.out.2]
            exact ⟨rfl, ⟨0, rfl⟩⟩
      · have hall := take_all s k (by omega)
        rw [hall] at HD hb ⊢
        have hv := read_val hst hr hl2 HD.out
        clear hall
        simp only [Bool.false_eq_true, if_false] at hv
        obtain ⟨hv1, hv2⟩ := hv
        rcases hv2 with ⟨hv2, hv3, hv4⟩ | ⟨hv2, hv3, hv4⟩
        · have t1 : ((NumB (dval 0 s.data.toList : Int)).toList == s.toList) = true := by rw [hv2]; simp
          have H3 := Lib.hid hv3
          have H4 := Lib.hid hv4
          clear hv2 hv3 hv4
          go_wp2_with (first | (go_at_call 29; ((with_reducible refine (l1Num_int (dval 0 s.data.toList : Int) (by omega) (by omega) _).mono ?_); rintro e w1 ⟨rfl, j, rfl⟩)))
          go_ret2
          rw [H3.out, H4.out]
          exact ⟨rfl, ⟨j, rfl⟩⟩
        · have t1 : ((NumB (dval 0 s.data.toList : Int)).toList == s.toList) = false := toList_ne hv2
          have H3 := Lib.hid hv3
          have H4 := Lib.hid hv4
          clear hv2 hv3 hv4
          go_wp2_with (first | (go_at_call 29; ((with_reducible refine (l1Num_int (dval 0 s.data.toList : Int) (by omega) (by omega) _).mono ?_); rintro e w1 ⟨rfl, j, rfl⟩)))
          go_ret2
          rw [H3.out, H4.out]
          exact ⟨rfl, ⟨j, rfl⟩⟩
  · have hx := read_len hst hr (by omega)
    have HX := Lib.hid hx
    have hl' : s.size < 1 ∨ 6 < s.size := by omega
    have hl'' : (s.size : Int) < 1 ∨ 6 < (s.size : Int) := by omega
    clear hx hl
    go_wp2_with (first | (go_at_call 25; ((with_reducible refine (l1In_no _ _ _ (by omega) _).mono ?_); rintro e w1 ⟨rfl, rfl⟩)))
    go_ret2
    rw [HX.out.1, HX.out.2]
    exact ⟨rfl, ⟨0, rfl⟩⟩
end Go.Proofs.YtadpjkghfgnbbaaDoor.L1
