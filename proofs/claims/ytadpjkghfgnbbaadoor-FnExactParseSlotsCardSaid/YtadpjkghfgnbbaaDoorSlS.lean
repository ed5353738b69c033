/- What spec.l8Find, spec.l8Good answer. -/
import Derived.Test.YtadpjkghfgnbbaaDoorSlo
import Derived.Test.YtadpjkghfgnbbaaDoorSltA
import Derived.Test.YtadpjkghfgnbbaaDoorPr6
import Derived.Test.YtadpjkghfgnbbaaDoorBlk
import Derived.Deep.Cut
namespace Go.Proofs.YtadpjkghfgnbbaaDoor.L8
open Go Go.RowKit Go.Proofs.YtadpjkghfgnbbaaDoor.Mem Go.Proofs.YtadpjkghfgnbbaaDoor.Own Go.Proofs.YtadpjkghfgnbbaaDoor.L6 Go.Proofs.YtadpjkghfgnbbaaDoor.L1

set_option maxRecDepth 100000 in
set_option maxHeartbeats 2000000 in
theorem l8Find_any (A : Option Addr) (n c B : Nat) (q : Int) (xs : List Slt) (w : World) (hr : Reads w B 3 A n (FL xs)) (hn : n ≤ 1048576) :
    Calls Tryd.prog 28 #[.slice A n c, .int .i64 q] w fun e w' => e = .returned (.int .i64 (fnd xs q)) ∧ w = w' := by
  have HL : Hid (xs.length = n) := Lib.hid (reads_len hr)
  have HR := Lib.hid hr
  clear hr
  go_enter Tryd.func28, Tryd.ntmps28
  go_wp2_with fail
  go_loop [5] (fun u5 => ∃ k : Nat, u5 = .int .i64 k ∧ k ≤ n ∧ Hid ((xs.take k).any (has q) = false)) (fun u5 => n - (intOf u5).toNat)
  case atStart => exact ⟨0, rfl, Nat.zero_le _, Lib.hid (by simp)⟩
  case round =>
    obtain ⟨k, rfl, hk, HA⟩ := hrel
    by_cases hlt : k < n
    · obtain ⟨b1, o1, x, rfl, _, hx, c0, c1, c2⟩ := slt_at HR.out hlt
      have HX := Lib.hid hx
      have HT := Lib.hid (any_takeS (p := has q) hx)
      clear hx c2
      obtain ⟨x0, x1, x2⟩ := x
      simp only at c0 c1
      by_cases h0 : x0 = 0
      · subst h0
        have HA2 : Hid ((xs.take (k + 1)).any (has q) = false) := Lib.hid (by rw [HT.out, HA.out]; rfl)
        clear HA HT
        go_wp2_with fail
        go_round
        case rel => exact ⟨k + 1, by go_num, by omega, HA2⟩
        case measure => simp [intOf]; omega
      · have t0 : (x0 != 0) = true := by simpa using h0
        by_cases h1 : x1 = q
        · have t1 : (x1 == q) = true := by simpa using h1
          have HF : Hid (fnd xs q = k) := Lib.hid (ixOf_at HX.out HA.out (by simp only [has, t0, t1]; rfl))
          clear h0 h1 HT HA
          go_wp2_with fail
          go_ret
          exact ⟨by rw [HF.out]; rfl, rfl⟩
        · have t1 : (x1 == q) = false := by simpa using h1
          have HA2 : Hid ((xs.take (k + 1)).any (has q) = false) := Lib.hid (by rw [HT.out, HA.out]; simp only [has, t1, Bool.and_false, Bool.or_false])
          clear h0 h1 HT HA
          go_wp2_with fail
          go_round
          case rel => exact ⟨k + 1, by go_num, by omega, HA2⟩
          case measure => simp [intOf]; omega
    · have hkn : k = n := by omega
      subst hkn
      have HF : Hid (fnd xs q = -1) := Lib.hid (ixOf_no (by have h := HA.out; rwa [List.take_of_length_le (by rw [HL.out]; exact Nat.le_refl _)] at h))
      clear HA
      go_wp2_with fail
      go_ret
      exact ⟨by rw [HF.out]; rfl, rfl⟩
/-- found at its own place, or ahead of it -/
theorem fnd_iff {xs : List Slt} {k : Nat} {x : Slt} (hx : xs[k]? = some x) (h0 : x.st ≠ 0) : (fnd xs x.iq != (k : Int)) = (xs.take k).any (has x.iq) := by
  have hh : has x.iq x = true := by simp [has, h0]
  cases ha : (xs.take k).any (has x.iq) with
  | false => rw [show fnd xs x.iq = k from ixOf_at hx ha hh]; simp
  | true =>
    rcases ixOf_cases (has x.iq) xs with ⟨_, hn⟩ | ⟨j, y, hj, hjl, hy, hp, hn⟩
    · exact absurd hh (by simpa using List.any_eq_false.1 hn x (List.mem_of_getElem? hx))
    · have hne : j ≠ k := by
        rintro rfl
        rw [hn] at ha
        cases ha
      rw [show fnd xs x.iq = j from hj]
      simp
      omega
/-- what the specification asks of a slot ahead of the search -/
theorem ok_1 {x : Slt} (h : ¬ (0 ≤ x.st ∧ x.st ≤ 3)) : ¬ Ok x := by unfold Ok; omega
theorem ok_2 {x : Slt} (h : ¬ (0 ≤ x.iq ∧ x.iq < 8)) : ¬ Ok x := by unfold Ok; omega
theorem ok_3 {x : Slt} (h : ¬ (0 ≤ x.pr ∧ x.pr < 16)) : ¬ Ok x := by unfold Ok; omega
theorem ok_4 {x : Slt} (h : x.st = 0) (h1 : x.iq ≠ 0 ∨ x.pr ≠ 0) : ¬ Ok x := by unfold Ok; omega
theorem ok_5 {x : Slt} (h : x.st = 0) (h1 : x.iq = 0) (h2 : x.pr = 0) : Ok x := .inl ⟨h, h1, h2⟩
theorem ok_6 {x : Slt} (h : x.st ≠ 0) (h1 : 0 ≤ x.st ∧ x.st ≤ 3) (h2 : 0 ≤ x.iq ∧ x.iq < 8) (h3 : 0 ≤ x.pr ∧ x.pr < 16) : Ok x := by unfold Ok; omega
theorem atB_no {xs : List Slt} {k : Nat} {x : Slt} (hx : xs[k]? = some x) (h : ¬ Ok x) : atB xs k = false := by rw [atB_eq hx, decide_eq_false h]; rfl
theorem okB_false {xs : List Slt} {k : Nat} {x : Slt} (hx : xs[k]? = some x) (h : atB xs k = false) : okB xs = false := by
  unfold okB
  rw [upB_le h (List.getElem?_eq_some_iff.1 hx).1]
  simp
set_option maxRecDepth 100000 in
set_option maxHeartbeats 4000000 in
theorem l8Good_any (A : Option Addr) (n c B : Nat) (xs : List Slt) (w : World) (hr : Reads w B 3 A n (FL xs)) (hB : B ≤ w.heap.size) (hn : n ≤ 1048576) (b : Bool) (h : okB xs = b) :
    Calls Tryd.prog 14 #[.slice A n c] w fun e w' => e = .returned (.bool b) ∧ Below w.heap.size w w' := by
  have HL : Hid (xs.length = n) := Lib.hid (reads_len hr)
  have HR := Lib.hid hr
  have HB := Lib.hid h
  clear h hr
  go_enter Tryd.func14, Tryd.ntmps14
  go_wp2_with fail
  go_loopw [3] (fun u3 wr => ∃ (k : Nat), u3 = .int .i64 k ∧ k ≤ n ∧ Hid (upB xs k = true) ∧ Hid (Below w.heap.size w wr)) (fun u3 _ => n - (intOf u3).toNat)
  case atStart => exact ⟨0, rfl, Nat.zero_le _, Lib.hid rfl, Lib.hid (Below.refl _ _)⟩
  case round =>
    obtain ⟨k, rfl, hk, HK, HW⟩ := hrel
    by_cases hlt : k < n
    · obtain ⟨b1, o1, x, rfl, hbB, hu, c0, c1, c2⟩ := slt_at (HR.out.below (HW.out.mono hB)) hlt
      have HU := Lib.hid hu
      have HS : Hid (upB xs (k + 1) = atB xs k) := Lib.hid (by rw [upB_succ, HK.out]; rfl)
      have HNO : Hid (atB xs k = false → false = b) := Lib.hid (fun h => by rw [← HB.out]; exact (okB_false hu h).symm)
      have HN1 : Hid (¬ (0 ≤ x.st ∧ x.st ≤ 3) → atB xs k = false) := Lib.hid (fun h => atB_no hu (ok_1 h))
      have HN2 : Hid (¬ (0 ≤ x.iq ∧ x.iq < 8) → atB xs k = false) := Lib.hid (fun h => atB_no hu (ok_2 h))
      have HN3 : Hid (¬ (0 ≤ x.pr ∧ x.pr < 16) → atB xs k = false) := Lib.hid (fun h => atB_no hu (ok_3 h))
      have HN4 : Hid (x.st = 0 → (x.iq ≠ 0 ∨ x.pr ≠ 0) → atB xs k = false) := Lib.hid (fun h h1 => atB_no hu (ok_4 h h1))
      have HN5 : Hid (x.st = 0 → x.iq = 0 → x.pr = 0 → atB xs k = true) := Lib.hid (fun h h1 h2 => by rw [atB_eq hu, decide_eq_true (ok_5 h h1 h2), h]; rfl)
      have HN6 : Hid (x.st ≠ 0 → (0 ≤ x.st ∧ x.st ≤ 3) → (0 ≤ x.iq ∧ x.iq < 8) → (0 ≤ x.pr ∧ x.pr < 16) → atB xs k = !(fnd xs x.iq != (k : Int))) := Lib.hid (fun h h1 h2 h3 => by rw [atB_eq hu, decide_eq_true (ok_6 h h1 h2 h3), fnd_iff hu h]; simp [h])
      clear hu HK
      obtain ⟨q1, h1⟩ : ∃ q, decide (0 ≤ x.st ∧ x.st ≤ 3) = q := ⟨_, rfl⟩
      obtain ⟨q2, h2⟩ : ∃ q, decide (0 ≤ x.iq ∧ x.iq < 8) = q := ⟨_, rfl⟩
      obtain ⟨q3, h3⟩ : ∃ q, decide (0 ≤ x.pr ∧ x.pr < 16) = q := ⟨_, rfl⟩
      have H1 := Lib.hid h1
      have H2 := Lib.hid h2
      have H3 := Lib.hid h3
      clear h1 h2 h3
      obtain ⟨f, hf⟩ : ∃ f, fnd xs x.iq = f := ⟨_, rfl⟩
      rw [hf] at HN6
      have HF := Lib.hid hf
      clear hf
      obtain ⟨x0, x1, x2⟩ := x
      simp only at c0 c1 c2 H1 H2 H3 HN1 HN2 HN3 HN4 HN5 HN6 HF
      have HW1 := Lib.hid (below_more HW.out (.cells #[.int .i64 x0, .int .i64 x1, .int .i64 x2] 37))
      have HRF := Lib.hid (HR.out.below (HW1.out.mono hB))
      cases q1
      · have HZ := Lib.hid (HNO.out (HN1.out (of_decide_eq_false H1.out)))
        clear HN1 HN2 HN3 HN4 HN5 HN6 HNO HS HF HRF
        go_wp2_with fail
        refine (l1In_any _ _ _ _ H1.out _).mono ?_
        rintro e w1 ⟨rfl, rfl⟩
        go_wp2_with fail
        go_ret
        exact ⟨by rw [← HZ.out]; rfl, HW1.out⟩
      cases q2
      · have HZ := Lib.hid (HNO.out (HN2.out (of_decide_eq_false H2.out)))
        clear HN1 HN2 HN3 HN4 HN5 HN6 HNO HS HF HRF
        go_wp2_with fail
        refine (l1In_any _ _ _ _ H1.out _).mono ?_
        rintro e w1 ⟨rfl, rfl⟩
        go_wp2_with fail
        refine (l6Irq_any _ _ H2.out _).mono ?_
        rintro e w1 ⟨rfl, rfl⟩
        go_wp2_with fail
        go_ret
        exact ⟨by rw [← HZ.out]; rfl, HW1.out⟩
      have GO3 : True := trivial
      cases q3
      · have HZ := Lib.hid (HNO.out (HN3.out (of_decide_eq_false H3.out)))
        clear HN1 HN2 HN3 HN4 HN5 HN6 HNO HS HF HRF
        go_wp2_with fail
        refine (l1In_any _ _ _ _ H1.out _).mono ?_
        rintro e w1 ⟨rfl, rfl⟩
        go_wp2_with fail
        refine (l6Irq_any _ _ H2.out _).mono ?_
        rintro e w1 ⟨rfl, rfl⟩
        go_wp2_with fail
        refine (l6Prio_any _ _ H3.out _).mono ?_
        rintro e w1 ⟨rfl, rfl⟩
        go_wp2_with fail
        go_ret
        exact ⟨by rw [← HZ.out]; rfl, HW1.out⟩
      clear GO3
      by_cases h0 : x0 = 0
      · subst h0
        by_cases hi : x1 = 0
        · by_cases hp : x2 = 0
          · have HZ : Hid (upB xs (k + 1) = true) := Lib.hid (by rw [HS.out]; exact HN5.out rfl hi hp)
            subst hi hp
            clear HN1 HN2 HN3 HN4 HN5 HN6 HNO HS HF HRF
            go_wp2_with fail
            refine (l1In_any _ _ _ _ H1.out _).mono ?_
            rintro e w1 ⟨rfl, rfl⟩
            go_wp2_with fail
            refine (l6Irq_any _ _ H2.out _).mono ?_
            rintro e w1 ⟨rfl, rfl⟩
            go_wp2_with fail
            refine (l6Prio_any _ _ H3.out _).mono ?_
            rintro e w1 ⟨rfl, rfl⟩
            go_wp2_with fail
            go_roundw
            case rel => exact ⟨k + 1, by go_num, by omega, HZ, HW1⟩
            case measure => simp [intOf]; omega
          · have HZ := Lib.hid (HNO.out (HN4.out rfl (.inr hp)))
            have tp : (x2 != 0) = true := by simpa using hp
            subst hi
            clear HN1 HN2 HN3 HN4 HN5 HN6 HNO HS HF HRF hp
            go_wp2_with fail
            refine (l1In_any _ _ _ _ H1.out _).mono ?_
            rintro e w1 ⟨rfl, rfl⟩
            go_wp2_with fail
            refine (l6Irq_any _ _ H2.out _).mono ?_
            rintro e w1 ⟨rfl, rfl⟩
            go_wp2_with fail
            refine (l6Prio_any _ _ H3.out _).mono ?_
            rintro e w1 ⟨rfl, rfl⟩
            go_wp2_with fail
            go_ret
            exact ⟨by rw [← HZ.out]; rfl, HW1.out⟩
        · have HZ := Lib.hid (HNO.out (HN4.out rfl (.inl hi)))
          have ti : (x1 != 0) = true := by simpa using hi
          clear HN1 HN2 HN3 HN4 HN5 HN6 HNO HS HF HRF hi
          go_wp2_with fail
          refine (l1In_any _ _ _ _ H1.out _).mono ?_
          rintro e w1 ⟨rfl, rfl⟩
          go_wp2_with fail
          refine (l6Irq_any _ _ H2.out _).mono ?_
          rintro e w1 ⟨rfl, rfl⟩
          go_wp2_with fail
          refine (l6Prio_any _ _ H3.out _).mono ?_
          rintro e w1 ⟨rfl, rfl⟩
          go_wp2_with fail
          go_ret
          exact ⟨by rw [← HZ.out]; rfl, HW1.out⟩
      · have HA := Lib.hid (HN6.out h0 (of_decide_eq_true H1.out) (of_decide_eq_true H2.out) (of_decide_eq_true H3.out))
        have t0 : (x0 == 0) = false := by simpa using h0
        have t0' : (x0 != 0) = true := by simpa using h0
        clear HN1 HN2 HN3 HN4 HN5 HN6 h0
        obtain ⟨d, hd⟩ : ∃ d, (f != (k : Int)) = d := ⟨_, rfl⟩
        rw [hd] at HA
        cases d
        · have HZ : Hid (upB xs (k + 1) = true) := Lib.hid (by rw [HS.out, HA.out]; rfl)
          clear HNO HS HA
          go_wp2_with fail
          refine (l1In_any _ _ _ _ H1.out _).mono ?_
          rintro e w1 ⟨rfl, rfl⟩
          go_wp2_with fail
          refine (l6Irq_any _ _ H2.out _).mono ?_
          rintro e w1 ⟨rfl, rfl⟩
          go_wp2_with fail
          refine (l6Prio_any _ _ H3.out _).mono ?_
          rintro e w1 ⟨rfl, rfl⟩
          go_wp2_with fail
          refine (l8Find_any _ _ _ _ x1 xs _ HRF.out hn).mono ?_
          rintro e w1 ⟨rfl, rfl⟩
          rw [HF.out]
          go_wp2_with fail
          go_roundw
          case rel => exact ⟨k + 1, by go_num, by omega, HZ, HW1⟩
          case measure => simp [intOf]; omega
        · have HZ := Lib.hid (HNO.out (by rw [HA.out]; rfl))
          clear HNO HS HA
          go_wp2_with fail
          refine (l1In_any _ _ _ _ H1.out _).mono ?_
          rintro e w1 ⟨rfl, rfl⟩
          go_wp2_with fail
          refine (l6Irq_any _ _ H2.out _).mono ?_
          rintro e w1 ⟨rfl, rfl⟩
          go_wp2_with fail
          refine (l6Prio_any _ _ H3.out _).mono ?_
          rintro e w1 ⟨rfl, rfl⟩
          go_wp2_with fail
          refine (l8Find_any _ _ _ _ x1 xs _ HRF.out hn).mono ?_
          rintro e w1 ⟨rfl, rfl⟩
          rw [HF.out]
          go_wp2_with fail
          go_ret
          exact ⟨by rw [← HZ.out]; rfl, HW1.out⟩
    · have hkn : k = n := by omega
      subst hkn
      have HZ : Hid (((k : Int) == 4) = b) := Lib.hid (by
        rw [← HB.out, okB, HL.out, HK.out, Bool.and_true, Bool.eq_iff_iff]
        simp
        omega)
      clear HK HB
      go_wp2_with fail
      go_ret
      exact ⟨by rw [← HZ.out]; rfl, HW.out⟩
end Go.Proofs.YtadpjkghfgnbbaaDoor.L8
