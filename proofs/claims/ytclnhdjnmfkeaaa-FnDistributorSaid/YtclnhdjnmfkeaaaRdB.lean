/- What ReadyIrqs of spec, and MostUrgent of both, answer. -/
import Derived.Test.YtclnhdjnmfkeaaaRdA
import Derived.Test.YtclnhdjnmfkeaaaRdI
namespace Go.Proofs.Ytclnhdjnmfkeaaa.L6
open Go Go.RowKit Go.Proofs.Ytclnhdjnmfkeaaa.Mem Go.Proofs.Ytclnhdjnmfkeaaa.Own
set_option maxRecDepth 100000 in
set_option maxHeartbeats 1000000 in
theorem specReady_any (A : Option Addr) (n c : Nat) (xs : List Irq) (cpu : Int) (w : World) (hr : Reads w w.heap.size 5 A n (FL xs)) (hn : n ≤ 1048576) (l : List Nat) (b : Bool) (h : rdAns xs cpu = (l, b)) :
    Calls Try.prog 28 #[.slice A n c, .int .i64 cpu] w (NatPost w l b) := by
  have HR := Lib.hid hr
  have HH := Lib.hid h
  have HL : Hid (xs.length = n) := Lib.hid (reads_len hr)
  clear hr h
  by_cases hok : OkL xs
  · have HA := Lib.hid (decide_eq_true hok)
    have h8 : n = 8 := by rw [← HL.out]; exact hok.1
    subst h8
    by_cases hc : 0 ≤ cpu ∧ cpu < 4
    · have HC := Lib.hid (decide_eq_true hc)
      obtain ⟨rfl, rfl⟩ := rdAns_yes HH.out hok hc
      clear hok hc HH
      go_enter Try.func28, Try.ntmps28
      go_wp2_with fail
      refine (l6Good_any A 8 c _ xs _ HR.out (by omega) _ HA.out).mono ?_
      rintro e w1 ⟨rfl, rfl⟩
      go_wp2_with fail
      refine (l6Cpu_any _ _ HC.out _).mono ?_
      rintro e w2 ⟨rfl, rfl⟩
      go_wp2_with fail
      refine (l6All_any A c xs cpu _ HR.out).mono ?_
      rintro e w3 ⟨g, c', rfl, hown, hb⟩
      have HO := Lib.hid hown
      have HB := Lib.hid hb
      clear hown hb
      go_wp2_with fail
      go_ret2
      exact natPost_of rfl HO.out HB.out
    · have HC := Lib.hid (decide_eq_false hc)
      obtain ⟨rfl, rfl⟩ := rdAns_no HH.out (fun hh => hc hh.2)
      clear hok hc HH
      go_enter Try.func28, Try.ntmps28
      go_wp2_with fail
      refine (l6Good_any A 8 c _ xs _ HR.out (by omega) _ HA.out).mono ?_
      rintro e w1 ⟨rfl, rfl⟩
      go_wp2_with fail
      refine (l6Cpu_any _ _ HC.out _).mono ?_
      rintro e w2 ⟨rfl, rfl⟩
      go_wp2_with fail
      go_ret2
      exact ⟨_, 0, rfl, World.ownsRow_made _ #[] 0 (Nat.le_refl _) (Nat.zero_le _) rfl, below_more (Below.refl _ _) _⟩
  · have HA := Lib.hid (decide_eq_false hok)
    obtain ⟨rfl, rfl⟩ := rdAns_no HH.out (fun hh => hok hh.1)
    clear hok HH
    go_enter Try.func28, Try.ntmps28
    go_wp2_with fail
    refine (l6Good_any A n c _ xs _ HR.out hn _ HA.out).mono ?_
    rintro e w1 ⟨rfl, rfl⟩
    go_wp2_with fail
    go_ret2
    exact ⟨_, 0, rfl, World.ownsRow_made _ #[] 0 (Nat.le_refl _) (Nat.zero_le _) rfl, below_more (Below.refl _ _) _⟩
theorem muAns_no {xs : List Irq} {cpu : Int} {z : Int} {b : Bool} (h : muAns xs cpu = (z, b)) (hn : ¬ (OkL xs ∧ (0 ≤ cpu ∧ cpu < 4))) : z = 0 ∧ b = false := by
  unfold muAns at h
  rw [if_neg hn] at h
  exact ⟨(congrArg Prod.fst h).symm, (congrArg Prod.snd h).symm⟩
theorem muAns_nil {xs : List Irq} {cpu : Int} {z : Int} {b : Bool} (h : muAns xs cpu = (z, b)) (ho : OkL xs) (hk : 0 ≤ cpu ∧ cpu < 4) (hr : rdy xs cpu 8 = []) : z = -1 ∧ b = true := by
  unfold muAns at h
  rw [if_pos ⟨ho, hk⟩, hr] at h
  exact ⟨(congrArg Prod.fst h).symm, (congrArg Prod.snd h).symm⟩
theorem muAns_cons {xs : List Irq} {cpu : Int} {z : Int} {b : Bool} {j : Nat} {l : List Nat} (h : muAns xs cpu = (z, b)) (ho : OkL xs) (hk : 0 ≤ cpu ∧ cpu < 4) (hr : rdy xs cpu 8 = j :: l) : z = j ∧ b = true := by
  unfold muAns at h
  rw [if_pos ⟨ho, hk⟩, hr] at h
  exact ⟨(congrArg Prod.fst h).symm, (congrArg Prod.snd h).symm⟩
theorem rdAns_of {xs : List Irq} {cpu : Int} (ho : OkL xs) (hk : 0 ≤ cpu ∧ cpu < 4) : rdAns xs cpu = (rdy xs cpu 8, true) := by unfold rdAns; rw [if_pos ⟨ho, hk⟩]
theorem rdAns_not {xs : List Irq} {cpu : Int} (hn : ¬ (OkL xs ∧ (0 ≤ cpu ∧ cpu < 4))) : rdAns xs cpu = ([], false) := by unfold rdAns; rw [if_neg hn]
set_option maxRecDepth 100000 in
set_option maxHeartbeats 1000000 in
theorem implMost_any (A : Option Addr) (n c : Nat) (xs : List Irq) (cpu : Int) (w : World) (hr : Reads w w.heap.size 5 A n (FL xs)) (z : Int) (b : Bool) (h : muAns xs cpu = (z, b)) :
    Calls Try.prog 34 #[.slice A n c, .int .i64 cpu] w fun e w' => e = .returned (.tuple #[.int .i64 z, .bool b]) ∧ Below w.heap.size w w' := by
  have HR := Lib.hid hr
  have HH := Lib.hid h
  clear hr h
  by_cases hok : OkL xs ∧ (0 ≤ cpu ∧ cpu < 4)
  · have HC := Lib.hid (implReady_any A n c xs cpu w HR.out (rdy xs cpu 8) true (rdAns_of hok.1 hok.2))
    cases hrd : rdy xs cpu 8 with
    | nil =>
      obtain ⟨rfl, rfl⟩ := muAns_nil HH.out hok.1 hok.2 hrd
      rw [hrd] at HC
      clear hok hrd
      go_enter Try.func34, Try.ntmps34
      go_wp2_with fail
      refine HC.out.mono ?_
      rintro e w1 ⟨A', c', rfl, hown, hb⟩
      change w1.ownsRow w.heap.size 3 1 (.slice A' 0 c') 0 (I (ints [])) at hown
      have HB := Lib.hid hb
      clear hown hb
      go_wp2_with fail
      go_ret2
      exact ⟨rfl, HB.out⟩
    | cons j l =>
      obtain ⟨rfl, rfl⟩ := muAns_cons HH.out hok.1 hok.2 hrd
      rw [hrd] at HC
      obtain ⟨m, hm⟩ : ∃ m, (j :: l).length = m := ⟨_, rfl⟩
      have hm1 : 0 < m := by rw [← hm]; simp
      have HM := Lib.hid hm
      clear hok hrd hm
      go_enter Try.func34, Try.ntmps34
      go_wp2_with fail
      refine HC.out.mono ?_
      rintro e w1 ⟨A', c', rfl, hown, hb⟩
      rw [HM.out] at hown ⊢
      obtain ⟨g, rfl⟩ := own_head hown hm1
      have c0 : w1.cell? ⟨g, 0, none⟩ = some (.int .i64 (j : Int)) := (hown.cellAt 0 (by omega)).trans rfl
      have hmz : ((m : Int) == 0) = false := by simp; omega
      have HB := Lib.hid hb
      clear hown hb
      go_wp2_with fail
      go_ret2
      exact ⟨rfl, HB.out⟩
  · obtain ⟨rfl, rfl⟩ := muAns_no HH.out hok
    have HC := Lib.hid (implReady_any A n c xs cpu w HR.out [] false (rdAns_not hok))
    clear hok
    go_enter Try.func34, Try.ntmps34
    go_wp2_with fail
    refine HC.out.mono ?_
    rintro e w1 ⟨A', c', rfl, hown, hb⟩
    have HB := Lib.hid hb
    clear hown hb
    go_wp2_with fail
    go_ret2
    exact ⟨rfl, HB.out⟩
set_option maxRecDepth 100000 in
set_option maxHeartbeats 1000000 in
theorem specMost_any (A : Option Addr) (n c : Nat) (xs : List Irq) (cpu : Int) (w : World) (hr : Reads w w.heap.size 5 A n (FL xs)) (hn : n ≤ 1048576) (z : Int) (b : Bool) (h : muAns xs cpu = (z, b)) :
    Calls Try.prog 33 #[.slice A n c, .int .i64 cpu] w fun e w' => e = .returned (.tuple #[.int .i64 z, .bool b]) ∧ Below w.heap.size w w' := by
  have HR := Lib.hid hr
  have HH := Lib.hid h
  have HL : Hid (xs.length = n) := Lib.hid (reads_len hr)
  clear hr h
  by_cases hok : OkL xs
  · have HA := Lib.hid (decide_eq_true hok)
    have h8 : n = 8 := by rw [← HL.out]; exact hok.1
    subst h8
    by_cases hc : 0 ≤ cpu ∧ cpu < 4
    · have HC := Lib.hid (decide_eq_true hc)
      have HAL := Lib.hid (l6All_any A c xs cpu w HR.out)
      cases hrd : rdy xs cpu 8 with
      | nil =>
        obtain ⟨rfl, rfl⟩ := muAns_nil HH.out hok hc hrd
        rw [hrd] at HAL
        clear hok hc HH hrd
        go_enter Try.func33, Try.ntmps33
        go_wp2_with fail
        refine (l6Good_any A 8 c _ xs _ HR.out (by omega) _ HA.out).mono ?_
        rintro e w1 ⟨rfl, rfl⟩
        go_wp2_with fail
        refine (l6Cpu_any _ _ HC.out _).mono ?_
        rintro e w2 ⟨rfl, rfl⟩
        go_wp2_with fail
        refine HAL.out.mono ?_
        rintro e w3 ⟨g, c', rfl, hown, hb⟩
        have HB := Lib.hid hb
        clear hown hb
        go_wp2_with fail
        go_ret2
        exact ⟨rfl, HB.out⟩
      | cons j l =>
        obtain ⟨rfl, rfl⟩ := muAns_cons HH.out hok hc hrd
        rw [hrd] at HAL
        obtain ⟨m, hm⟩ : ∃ m, (j :: l).length = m := ⟨_, rfl⟩
        have hm1 : 0 < m := by rw [← hm]; simp
        have HM := Lib.hid hm
        clear hok hc HH hrd hm
        go_enter Try.func33, Try.ntmps33
        go_wp2_with fail
        refine (l6Good_any A 8 c _ xs _ HR.out (by omega) _ HA.out).mono ?_
        rintro e w1 ⟨rfl, rfl⟩
        go_wp2_with fail
        refine (l6Cpu_any _ _ HC.out _).mono ?_
        rintro e w2 ⟨rfl, rfl⟩
        go_wp2_with fail
        refine HAL.out.mono ?_
        rintro e w3 ⟨g, c', rfl, hown, hb⟩
        rw [HM.out] at hown ⊢
        have c0 : w3.cell? ⟨g, 0, none⟩ = some (.int .i64 (j : Int)) := (hown.cellAt 0 (by omega)).trans rfl
        have hmz : decide ((0 : Nat) < m) = true := decide_eq_true hm1
        have HB := Lib.hid hb
        clear hown hb
        go_wp2_with fail
        go_ret2
        exact ⟨rfl, HB.out⟩
    · have HC := Lib.hid (decide_eq_false hc)
      obtain ⟨rfl, rfl⟩ := muAns_no HH.out (fun hh => hc hh.2)
      clear hok hc HH
      go_enter Try.func33, Try.ntmps33
      go_wp2_with fail
      refine (l6Good_any A 8 c _ xs _ HR.out (by omega) _ HA.out).mono ?_
      rintro e w1 ⟨rfl, rfl⟩
      go_wp2_with fail
      refine (l6Cpu_any _ _ HC.out _).mono ?_
      rintro e w2 ⟨rfl, rfl⟩
      go_wp2_with fail
      go_ret2
      exact ⟨rfl, Below.refl _ _⟩
  · have HA := Lib.hid (decide_eq_false hok)
    obtain ⟨rfl, rfl⟩ := muAns_no HH.out (fun hh => hok hh.1)
    clear hok HH
    go_enter Try.func33, Try.ntmps33
    go_wp2_with fail
    refine (l6Good_any A n c _ xs _ HR.out hn _ HA.out).mono ?_
    rintro e w1 ⟨rfl, rfl⟩
    go_wp2_with fail
    go_ret2
    exact ⟨rfl, Below.refl _ _⟩
end Go.Proofs.Ytclnhdjnmfkeaaa.L6
