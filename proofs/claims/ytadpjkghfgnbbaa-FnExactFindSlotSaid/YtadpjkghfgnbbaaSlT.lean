/- What spec.AreSlots, spec.FindSlot, spec.EmptySlots answer. -/
import Derived.Test.YtadpjkghfgnbbaaSlS
namespace Go.Proofs.Ytadpjkghfgnbbaa.L8
open Go Go.RowKit Go.Proofs.Ytadpjkghfgnbbaa.Mem Go.Proofs.Ytadpjkghfgnbbaa.Own Go.Proofs.Ytadpjkghfgnbbaa.L6 Go.Proofs.Ytadpjkghfgnbbaa.L1
set_option maxRecDepth 100000 in
set_option maxHeartbeats 1600000 in
theorem specAre_any (A : Option Addr) (n c B : Nat) (xs : List Slt) (w : World) (hr : Reads w B 3 A n (FL xs)) (hB : B ≤ w.heap.size) (hn : n ≤ 1048576) (b : Bool) (h : okB xs = b) :
    Calls Try.prog 32 #[.slice A n c] w fun e w' => e = .returned (.bool b) ∧ Below w.heap.size w w' := by
  have HR := Lib.hid hr
  clear hr
  go_enter Try.func32, Try.ntmps32
  go_wp2_with fail
  refine (l8Good_any A n c B xs _ HR.out hB hn b h).mono ?_
  rintro e w1 ⟨rfl, hb⟩
  go_wp2_with fail
  go_ret
  exact ⟨rfl, hb⟩
set_option maxRecDepth 100000 in
set_option maxHeartbeats 1600000 in
theorem specFind_any (A : Option Addr) (n c : Nat) (xs : List Slt) (q : Int) (w : World) (hr : Reads w w.heap.size 3 A n (FL xs)) (hn : n ≤ 1048576) (z : Int) (d : Bool) (h : fdAns xs q = (z, d)) :
    Calls Try.prog 30 #[.slice A n c, .int .i64 q] w fun e w' => e = .returned (.tuple #[.int .i64 z, .bool d]) ∧ Below w.heap.size w w' := by
  have HR := Lib.hid hr
  obtain ⟨b, hb⟩ : ∃ b, okB xs = b := ⟨_, rfl⟩
  have HG := Lib.hid hb
  have HI := Lib.hid (fun w hr => l8Good_any A n c _ xs w hr (Nat.le_refl _) hn b HG.out)
  clear hr hb
  have HZ := Lib.hid h
  clear h
  cases b
  · have h := HZ.out
    unfold fdAns at h
    rw [if_neg (by rw [HG.out]; simp)] at h
    obtain ⟨e1, e2⟩ := Prod.mk.inj h; subst e1 e2
    clear HZ
    go_enter Try.func30, Try.ntmps30
    go_wp2_with fail
    refine (HI.out _ HR.out).mono ?_
    rintro e w1 ⟨rfl, hb1⟩
    have HB1 := Lib.hid hb1
    clear hb1
    go_wp2_with fail
    go_ret2
    exact ⟨rfl, HB1.out⟩
  obtain ⟨b1, hb1⟩ : ∃ b, decide (0 ≤ q ∧ q < 8) = b := ⟨_, rfl⟩
  have H1 := Lib.hid hb1
  clear hb1
  have h := HZ.out
  unfold fdAns at h
  obtain ⟨f, hf⟩ : ∃ f, fnd xs q = f := ⟨_, rfl⟩
  have hlo : -1 ≤ f := by rw [← hf]; exact ixOf_lo _ _
  rw [hf] at h
  have HF := Lib.hid hf
  clear HZ hf
  cases b1
  · have hf1 : f = -1 := by rw [← HF.out]; exact fnd_out HG.out (of_decide_eq_false H1.out)
    subst hf1
    rw [if_neg (fun hh => absurd hh.2 (by decide))] at h
    obtain ⟨e1, e2⟩ := Prod.mk.inj h; subst e1 e2
    clear h hlo
    go_enter Try.func30, Try.ntmps30
    go_wp2_with fail
    refine (HI.out _ HR.out).mono ?_
    rintro e w1 ⟨rfl, hb1⟩
    have HB1 := Lib.hid hb1
    clear hb1
    go_wp2_with fail
    refine (l6Irq_any _ _ H1.out _).mono ?_
    rintro e w2 ⟨rfl, rfl⟩
    go_wp2_with fail
    go_ret2
    exact ⟨rfl, HB1.out⟩
  · by_cases h0 : 0 ≤ f
    · rw [if_pos ⟨HG.out, h0⟩] at h
      obtain ⟨e1, e2⟩ := Prod.mk.inj h; subst e1 e2
      have t0 : decide (f < 0) = false := decide_eq_false (by omega)
      clear h hlo
      go_enter Try.func30, Try.ntmps30
      go_wp2_with fail
      refine (HI.out _ HR.out).mono ?_
      rintro e w1 ⟨rfl, hb1⟩
      have HB1 := Lib.hid hb1
      clear hb1
      go_wp2_with fail
      refine (l6Irq_any _ _ H1.out _).mono ?_
      rintro e w2 ⟨rfl, rfl⟩
      go_wp2_with fail
      refine (l8Find_any A n c _ q xs _ (HR.out.below HB1.out) hn).mono ?_
      rintro e w2 ⟨rfl, rfl⟩
      rw [HF.out]
      go_wp2_with fail
      refine (l8Find_any A n c _ q xs _ (HR.out.below HB1.out) hn).mono ?_
      rintro e w2 ⟨rfl, rfl⟩
      rw [HF.out]
      go_wp2_with fail
      go_ret2
      exact ⟨rfl, HB1.out⟩
    · rw [if_neg (fun hh => h0 hh.2)] at h
      obtain ⟨e1, e2⟩ := Prod.mk.inj h; subst e1 e2
      have hf1 : f = -1 := by omega
      subst hf1
      clear h h0 hlo
      go_enter Try.func30, Try.ntmps30
      go_wp2_with fail
      refine (HI.out _ HR.out).mono ?_
      rintro e w1 ⟨rfl, hb1⟩
      have HB1 := Lib.hid hb1
      clear hb1
      go_wp2_with fail
      refine (l6Irq_any _ _ H1.out _).mono ?_
      rintro e w2 ⟨rfl, rfl⟩
      go_wp2_with fail
      refine (l8Find_any A n c _ q xs _ (HR.out.below HB1.out) hn).mono ?_
      rintro e w2 ⟨rfl, rfl⟩
      rw [HF.out]
      go_wp2_with fail
      go_ret2
      exact ⟨rfl, HB1.out⟩
set_option maxRecDepth 100000 in
set_option maxHeartbeats 1600000 in
theorem specEmpty_any (A : Option Addr) (n c : Nat) (xs : List Slt) (w : World) (hr : Reads w w.heap.size 3 A n (FL xs)) (hn : n ≤ 1048576) (z : Int) (d : Bool) (h : emAns xs = (z, d)) :
    Calls Try.prog 24 #[.slice A n c] w fun e w' => e = .returned (.tuple #[.int .i64 z, .bool d]) ∧ Below w.heap.size w w' := by
  have HR := Lib.hid hr
  obtain ⟨b, hb⟩ : ∃ b, okB xs = b := ⟨_, rfl⟩
  have HG := Lib.hid hb
  have HI := Lib.hid (fun w hr => l8Good_any A n c _ xs w hr (Nat.le_refl _) hn b HG.out)
  clear hr hb
  have HZ := Lib.hid h
  clear h
  cases b
  · have h := HZ.out
    unfold emAns at h
    rw [if_neg (by rw [HG.out]; simp)] at h
    obtain ⟨e1, e2⟩ := Prod.mk.inj h; subst e1 e2
    clear HZ
    go_enter Try.func24, Try.ntmps24
    go_wp2_with fail
    refine (HI.out _ HR.out).mono ?_
    rintro e w1 ⟨rfl, hb1⟩
    have HB1 := Lib.hid hb1
    clear hb1
    go_wp2_with fail
    go_ret2
    exact ⟨rfl, HB1.out⟩
  have hl : xs.length = 4 := okB_len HG.out
  have h4 : n = 4 := by have h1 : xs.length = n := reads_len HR.out; omega
  subst h4
  have HL : Hid (xs.length = 4) := Lib.hid hl
  have h := HZ.out
  unfold emAns at h
  rw [if_pos HG.out] at h
  have HE : Hid ((emp xs : Int) = z) := Lib.hid (congrArg Prod.fst h)
  have hd : d = true := (congrArg Prod.snd h).symm
  subst hd
  clear h HZ hl
  go_enter Try.func24, Try.ntmps24
  go_wp2_with fail
  refine (HI.out _ HR.out).mono ?_
  rintro e w1 ⟨rfl, hb1⟩
  have HB1 := Lib.hid hb1
  clear hb1
  have HRR := Lib.hid (HR.out.below HB1.out)
  go_wp2_with fail
  go_loop [4, 5] (fun u4 u5 => ∃ (k m : Nat), u5 = .int .i64 k ∧ k ≤ 4 ∧ u4 = .int .i64 m ∧ m ≤ k ∧ Hid (emp (xs.take k) = m)) (fun _ u5 => 4 - (intOf u5).toNat)
  case atStart => exact ⟨0, 0, rfl, Nat.zero_le _, rfl, Nat.le_refl _, Lib.hid (by simp [emp])⟩
  case round =>
    obtain ⟨k, m, rfl, hk, rfl, hm, HM⟩ := hrel
    by_cases hlt : k < 4
    · obtain ⟨b1, o1, x, rfl, _, hx, c0, c1, c2⟩ := slt_at HRR.out hlt
      have HT := Lib.hid (emp_take hx)
      clear hx c1 c2
      obtain ⟨x0, x1, x2⟩ := x
      simp only at c0 HT
      by_cases h0 : x0 = 0
      · have HM2 : Hid (emp (xs.take (k + 1)) = m + 1) := Lib.hid (by rw [HT.out, HM.out, if_pos h0])
        subst h0
        clear HT HM
        go_wp2_with fail
        go_round
        case rel => exact ⟨k + 1, m + 1, by go_num, by omega, by go_num, by omega, HM2⟩
        case measure => simp [intOf]; omega
      · have HM2 : Hid (emp (xs.take (k + 1)) = m) := Lib.hid (by rw [HT.out, HM.out, if_neg h0, Nat.add_zero])
        have t0 : (x0 == 0) = false := by simpa using h0
        clear HT HM h0
        go_wp2_with fail
        go_round
        case rel => exact ⟨k + 1, m, by go_num, by omega, rfl, by omega, HM2⟩
        case measure => simp [intOf]; omega
    · have hkn : k = 4 := by omega
      subst hkn
      have HM2 : Hid ((m : Int) = z) := Lib.hid (by
        have h := HM.out
        rw [List.take_of_length_le (by rw [HL.out]; exact Nat.le_refl _)] at h
        rw [← HE.out, h])
      clear HM HE
      go_wp2_with fail
      go_ret2
      exact ⟨by rw [← HM2.out]; rfl, HB1.out⟩
end Go.Proofs.Ytadpjkghfgnbbaa.L8
