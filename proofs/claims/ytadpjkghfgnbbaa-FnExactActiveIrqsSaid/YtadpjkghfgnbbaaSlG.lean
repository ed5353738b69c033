/- What impl.isActive, impl.EmptySlots, impl.FindSlot answer. -/
import Derived.Test.YtadpjkghfgnbbaaSlX
import Derived.Test.YtadpjkghfgnbbaaSloB
namespace Go.Proofs.Ytadpjkghfgnbbaa.L8
open Go Go.RowKit Go.Proofs.Ytadpjkghfgnbbaa.Mem Go.Proofs.Ytadpjkghfgnbbaa.Own Go.Proofs.Ytadpjkghfgnbbaa.L6
set_option maxRecDepth 100000 in
set_option maxHeartbeats 1600000 in
theorem isActive_c (x0 x1 x2 : Int) (h : x0 = 0 ∨ x0 = 1 ∨ x0 = 2 ∨ x0 = 3) (b : Bool) (hb : isAc ⟨x0, x1, x2⟩ = b) (w : World) :
    Calls Try.prog 50 #[.agg #[.int .i64 x0, .int .i64 x1, .int .i64 x2]] w fun e w' => e = .returned (.bool b) ∧ Below w.heap.size w w' := by
  rcases h with rfl | rfl | rfl | rfl
  all_goals
    subst hb
    go_enter Try.func50, Try.ntmps50
    go_wp2_with fail
    go_ret
    exact ⟨rfl, below_more (Below.refl _ _) _⟩
theorem st_of {x : Slt} (h : Ok x) : x.st = 0 ∨ x.st = 1 ∨ x.st = 2 ∨ x.st = 3 := by unfold Ok at h; omega
set_option maxRecDepth 100000 in
set_option maxHeartbeats 1600000 in
theorem implFind_any (A : Option Addr) (n c : Nat) (xs : List Slt) (q : Int) (w : World) (hr : Reads w w.heap.size 3 A n (FL xs)) (hc : n ≤ c) (z : Int) (d : Bool) (h : fdAns xs q = (z, d)) :
    Calls Try.prog 17 #[.slice A n c, .int .i64 q] w fun e w' => e = .returned (.tuple #[.int .i64 z, .bool d]) ∧ Below w.heap.size w w' := by
  have HR := Lib.hid hr
  obtain ⟨b, hb⟩ : ∃ b, okB xs = b := ⟨_, rfl⟩
  have HG := Lib.hid hb
  have HI := Lib.hid (fun w hr => implAre_any A n c _ xs w hr (Nat.le_refl _) hc b HG.out)
  clear hr hb
  have HZ := Lib.hid h
  clear h
  cases b
  · have h := HZ.out
    unfold fdAns at h
    rw [if_neg (by rw [HG.out]; simp)] at h
    obtain ⟨e1, e2⟩ := Prod.mk.inj h; subst e1 e2
    clear HZ
    go_enter Try.func17, Try.ntmps17
    go_wp2_with fail
    refine (HI.out _ HR.out).mono ?_
    rintro e w1 ⟨rfl, hb1⟩
    have HB1 := Lib.hid hb1
    clear hb1
    go_wp2_with fail
    go_ret2
    exact ⟨rfl, HB1.out⟩
  · have h4 : n = 4 := by have h1 : xs.length = n := reads_len HR.out; have h2 := okB_len HG.out; omega
    subst h4
    have h := HZ.out
    unfold fdAns at h
    obtain ⟨f, hf⟩ : ∃ f, fnd xs q = f := ⟨_, rfl⟩
    have hlo : -1 ≤ f := by rw [← hf]; exact ixOf_lo _ _
    rw [hf] at h
    have HF := Lib.hid hf
    clear HZ hf
    by_cases h0 : 0 ≤ f
    · rw [if_pos ⟨HG.out, h0⟩] at h
      obtain ⟨e1, e2⟩ := Prod.mk.inj h; subst e1 e2
      have t0 : decide (f < 0) = false := decide_eq_false (by omega)
      clear h
      go_enter Try.func17, Try.ntmps17
      go_wp2_with fail
      refine (HI.out _ HR.out).mono ?_
      rintro e w1 ⟨rfl, hb1⟩
      have HB1 := Lib.hid hb1
      clear hb1
      go_wp2_with fail
      refine (slotWith_any A 4 c q xs _ ((HR.out.below HB1.out).more HB1.out.size) (by omega)).mono ?_
      rintro e w2 ⟨rfl, hb2⟩
      rw [HF.out]
      have HB2 := Lib.hid (below_then HB1.out hb2)
      clear hb2 HB1 h0 hlo
      go_wp2_with fail
      go_ret2
      exact ⟨rfl, HB2.out⟩
    · rw [if_neg (fun hh => h0 hh.2)] at h
      obtain ⟨e1, e2⟩ := Prod.mk.inj h; subst e1 e2
      have hf1 : f = -1 := by omega
      subst hf1
      clear h h0 hlo
      go_enter Try.func17, Try.ntmps17
      go_wp2_with fail
      refine (HI.out _ HR.out).mono ?_
      rintro e w1 ⟨rfl, hb1⟩
      have HB1 := Lib.hid hb1
      clear hb1
      go_wp2_with fail
      refine (slotWith_any A 4 c q xs _ ((HR.out.below HB1.out).more HB1.out.size) (by omega)).mono ?_
      rintro e w2 ⟨rfl, hb2⟩
      rw [HF.out]
      have HB2 := Lib.hid (below_then HB1.out hb2)
      clear hb2 HB1
      go_wp2_with fail
      go_ret2
      exact ⟨rfl, HB2.out⟩
set_option maxRecDepth 100000 in
set_option maxHeartbeats 1600000 in
theorem implEmpty_any (A : Option Addr) (n c : Nat) (xs : List Slt) (w : World) (hr : Reads w w.heap.size 3 A n (FL xs)) (hc : n ≤ c) (z : Int) (d : Bool) (h : emAns xs = (z, d)) :
    Calls Try.prog 22 #[.slice A n c] w fun e w' => e = .returned (.tuple #[.int .i64 z, .bool d]) ∧ Below w.heap.size w w' := by
  have HR := Lib.hid hr
  obtain ⟨b, hb⟩ : ∃ b, okB xs = b := ⟨_, rfl⟩
  have HG := Lib.hid hb
  have HI := Lib.hid (fun w hr => implAre_any A n c _ xs w hr (Nat.le_refl _) hc b HG.out)
  clear hr hb
  have HZ := Lib.hid h
  clear h
  cases b
  · have h := HZ.out
    unfold emAns at h
    rw [if_neg (by rw [HG.out]; simp)] at h
    obtain ⟨e1, e2⟩ := Prod.mk.inj h; subst e1 e2
    clear HZ
    go_enter Try.func22, Try.ntmps22
    go_wp2_with fail
    refine (HI.out _ HR.out).mono ?_
    rintro e w1 ⟨rfl, hb1⟩
    have HB1 := Lib.hid hb1
    clear hb1
    go_wp2_with fail
    go_ret2
    exact ⟨rfl, HB1.out⟩
  · have HL : Hid (xs.length = n) := Lib.hid (reads_len HR.out)
    have h4 : n = 4 := by have h2 := okB_len HG.out; rw [HL.out] at h2; exact h2
    subst h4
    have h := HZ.out
    unfold emAns at h
    rw [if_pos HG.out] at h
    have HE : Hid ((emp xs : Int) = z) := Lib.hid (congrArg Prod.fst h)
    have hd : d = true := (congrArg Prod.snd h).symm
    subst hd
    clear h HZ
    go_enter Try.func22, Try.ntmps22
    go_wp2_with fail
    refine (HI.out _ HR.out).mono ?_
    rintro e w1 ⟨rfl, hb1⟩
    have HB1 := Lib.hid hb1
    clear hb1
    go_wp2_with fail
    go_loopw [4, 12] (fun u4 i wr => ∃ (k m : Nat), i = .int .i64 k ∧ k ≤ 4 ∧ u4 = .int .i64 m ∧ m ≤ k ∧ Hid (emp (xs.take k) = m) ∧ Hid (Below w.heap.size w wr)) (fun _ i _ => 4 - (intOf i).toNat)
    case atStart => exact ⟨0, 0, rfl, Nat.zero_le _, rfl, Nat.le_refl _, Lib.hid (by simp [emp]), HB1⟩
    case round =>
      obtain ⟨k, m, rfl, hk, rfl, hm, HM, HB⟩ := hrel
      by_cases hlt : k < 4
      · obtain ⟨b1, o1, x, rfl, _, hx, c0, c1, c2⟩ := slt_at ((HR.out.below HB.out).more HB.out.size) hlt
        have HT := Lib.hid (emp_take hx)
        clear hx
        obtain ⟨x0, x1, x2⟩ := x
        simp only at c0 c1 c2 HT
        have HB3 := Lib.hid (below_more HB.out (.cells #[.int .i64 x0, .int .i64 x1, .int .i64 x2] 33))
        by_cases h0 : x0 = 0
        · have HM2 : Hid (emp (xs.take (k + 1)) = m + 1) := Lib.hid (by rw [HT.out, HM.out, if_pos h0])
          subst h0
          clear HT HM HB
          go_wp2_with fail
          go_roundw
          case rel => exact ⟨k + 1, m + 1, by go_num, by omega, by go_num, by omega, HM2, HB3⟩
          case measure => simp [intOf]; omega
        · have HM2 : Hid (emp (xs.take (k + 1)) = m) := Lib.hid (by rw [HT.out, HM.out, if_neg h0, Nat.add_zero])
          have t0 : (x0 == 0) = false := by simpa using h0
          clear HT HM HB h0
          go_wp2_with fail
          go_roundw
          case rel => exact ⟨k + 1, m, by go_num, by omega, rfl, by omega, HM2, HB3⟩
          case measure => simp [intOf]; omega
      · have hkn : k = 4 := by omega
        subst hkn
        have HM2 : Hid ((m : Int) = z) := Lib.hid (by
          have h := HM.out
          rw [List.take_of_length_le (by rw [HL.out]; exact Nat.le_refl _)] at h
          rw [← HE.out, h])
        clear HM HE
        go_wp2_with fail
        go_ret2
        exact ⟨by rw [← HM2.out]; rfl, HB.out⟩
end Go.Proofs.Ytadpjkghfgnbbaa.L8
