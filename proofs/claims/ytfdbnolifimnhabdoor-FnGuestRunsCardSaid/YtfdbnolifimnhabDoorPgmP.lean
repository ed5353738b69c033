/- What IsProgram answers, of spec and impl. -/
import Derived.Test.YtfdbnolifimnhabDoorInsI
import Derived.Test.YtfdbnolifimnhabDoorInsS
import Derived.Test.YtfdbnolifimnhabDoorInsA
namespace Go.Proofs.YtfdbnolifimnhabDoor.L3
open Go Go.RowKit Go.Proofs.YtfdbnolifimnhabDoor.Mem Go.Proofs.YtfdbnolifimnhabDoor.Own Go.Proofs.YtfdbnolifimnhabDoor.L1
theorem all_more {α : Type} {xs : List α} {k : Nat} {x : α} {p : α → Prop} (h : ∀ x ∈ xs.take k, p x) (hz : xs[k]? = some x) (hp : p x) : ∀ x ∈ xs.take (k + 1), p x := by
  intro y hy
  rw [List.take_add_one, hz] at hy
  rcases List.mem_append.1 hy with h1 | h1
  · exact h y h1
  · simp at h1; subst h1; exact hp
set_option maxRecDepth 100000 in
set_option maxHeartbeats 2000000 in
theorem implProg_any (A : Option Addr) (n c : Nat) (xs : List Ins) (w : World) (hr : Reads w w.heap.size 4 A n (FL xs)) (hn : n ≤ 1048576) (ho : OpsIs w) (b : Bool) (hb : decide (OkP xs) = b) :
    Calls Tryd.prog 32 #[.slice A n c] w fun e w' => e = .returned (.bool b) ∧ Below w.heap.size w w' := by
  have HL : Hid (xs.length = n) := Lib.hid (reads_len hr)
  have HB := Lib.hid hb
  have HO := Lib.hid ho
  clear hb ho
  by_cases h : 1 ≤ n ∧ n ≤ 16
  · obtain ⟨h1, h2⟩ := h
    go_enter Tryd.func32, Tryd.ntmps32
    go_wp2
    go_loopw [15] (fun i wr => ∃ k : Nat, i = .int .i64 k ∧ k ≤ n ∧ Hid (∀ x ∈ xs.take k, Ok x) ∧ Below w.heap.size w wr) (fun i _ => n - (intOf i).toNat)
    case atStart => exact ⟨0, rfl, Nat.zero_le _, Lib.hid (by simp), Below.refl _ _⟩
    case round =>
      obtain ⟨k, rfl, hk, HK, hbel⟩ := hrel
      by_cases hlt : k < n
      · obtain ⟨b1, o1, x, rfl, _, hx, c0, c1, c2, c3⟩ := ins_at (hr.below hbel) hlt
        have HX := Lib.hid hx
        have HW := Lib.hid hbel
        obtain ⟨op, xa, xb, xn⟩ := x
        clear hx hbel
        go_wp2_with fail
        by_cases hok : Ok ⟨op, xa, xb, xn⟩
        · have HOK := Lib.hid hok
          clear hok
          refine (implIs_any ⟨op, xa, xb, xn⟩ _ (ops_below (below_more HW.out _) HO.out) true (decide_eq_true HOK.out)).mono ?_
          rintro e w1 ⟨rfl, hb⟩
          have HW2 := Lib.hid (below_then (below_more HW.out _) hb)
          clear hb c0 c1 c2 c3
          go_wp2_with fail
          go_roundw
          case rel => exact ⟨k + 1, by go_num, by omega, Lib.hid (all_more HK.out HX.out HOK.out), HW2.out⟩
          case measure => simp [intOf]; omega
        · have HOK := Lib.hid hok
          clear hok
          refine (implIs_any ⟨op, xa, xb, xn⟩ _ (ops_below (below_more HW.out _) HO.out) false (decide_eq_false HOK.out)).mono ?_
          rintro e w1 ⟨rfl, hb⟩
          have HW2 := Lib.hid (below_then (below_more HW.out _) hb)
          clear hb c0 c1 c2 c3
          go_wp2_with fail
          go_ret
          refine ⟨?_, HW2.out⟩
          rw [show b = false by rw [← HB.out]; exact decide_eq_false (fun h => HOK.out (h.1 _ (List.mem_of_getElem? HX.out)))]
          rfl
      · have hkn : k = n := by omega
        subst hkn
        go_wp2
        go_ret
        refine ⟨?_, hbel⟩
        have hall := HK.out
        rw [List.take_of_length_le (by rw [HL.out]; exact Nat.le_refl _)] at hall
        have hl := HL.out
        rw [show b = true by rw [← HB.out]; exact decide_eq_true ⟨hall, by omega, by omega⟩]
        rfl
  · have hf : b = false := by
      rw [← HB.out]
      refine decide_eq_false fun h' => h ?_
      have hl := HL.out
      have := h'.2
      omega
    have HF := Lib.hid hf
    clear hf
    by_cases h1 : n < 1
    · go_enter Tryd.func32, Tryd.ntmps32
      go_wp2
      go_ret
      exact ⟨by rw [HF.out]; rfl, Below.refl _ _⟩
    · have h2 : 16 < n := by omega
      go_enter Tryd.func32, Tryd.ntmps32
      go_wp2
      go_ret
      exact ⟨by rw [HF.out]; rfl, Below.refl _ _⟩
set_option maxRecDepth 100000 in
set_option maxHeartbeats 2000000 in
theorem l3Program_any (A : Option Addr) (n c : Nat) (xs : List Ins) (w : World) (hr : Reads w w.heap.size 4 A n (FL xs)) (hn : n ≤ 1048576) (b : Bool) (hb : decide (OkP xs) = b) :
    Calls Tryd.prog 64 #[.slice A n c] w fun e w' => e = .returned (.bool b) ∧ Below w.heap.size w w' := by
  have HL : Hid (xs.length = n) := Lib.hid (reads_len hr)
  have HB := Lib.hid hb
  clear hb
  go_enter Tryd.func64, Tryd.ntmps64
  go_wp2
  go_loopw [3] (fun i wr => ∃ k : Nat, i = .int .i64 k ∧ k ≤ n ∧ Hid (∀ x ∈ xs.take k, Ok x) ∧ Below w.heap.size w wr) (fun i _ => n - (intOf i).toNat)
  case atStart => exact ⟨0, rfl, Nat.zero_le _, Lib.hid (by simp), Below.refl _ _⟩
  case round =>
    obtain ⟨k, rfl, hk, HK, hbel⟩ := hrel
    by_cases hlt : k < n
    · obtain ⟨b1, o1, x, rfl, _, hx, c0, c1, c2, c3⟩ := ins_at (hr.below hbel) hlt
      have HX := Lib.hid hx
      have HW := Lib.hid hbel
      obtain ⟨op, xa, xb, xn⟩ := x
      clear hx hbel
      go_wp2_with fail
      by_cases hok : Ok ⟨op, xa, xb, xn⟩
      · have HOK := Lib.hid hok
        clear hok
        refine (l3One_any ⟨op, xa, xb, xn⟩ _ true (decide_eq_true HOK.out)).mono ?_
        rintro e w1 ⟨rfl, hb⟩
        have HW2 := Lib.hid (below_then HW.out hb)
        clear hb c0 c1 c2 c3
        go_wp2_with fail
        go_roundw
        case rel => exact ⟨k + 1, by go_num, by omega, Lib.hid (all_more HK.out HX.out HOK.out), HW2.out⟩
        case measure => simp [intOf]; omega
      · have HOK := Lib.hid hok
        clear hok
        refine (l3One_any ⟨op, xa, xb, xn⟩ _ false (decide_eq_false HOK.out)).mono ?_
        rintro e w1 ⟨rfl, hb⟩
        have HW2 := Lib.hid (below_then HW.out hb)
        clear hb c0 c1 c2 c3
        go_wp2_with fail
        go_ret
        refine ⟨?_, HW2.out⟩
        rw [show b = false by rw [← HB.out]; exact decide_eq_false (fun h => HOK.out (h.1 _ (List.mem_of_getElem? HX.out)))]
        rfl
    · have hkn : k = n := by omega
      subst hkn
      have hall := HK.out
      rw [List.take_of_length_le (by rw [HL.out]; exact Nat.le_refl _)] at hall
      have hbe : decide (1 ≤ (k : Int) ∧ (k : Int) ≤ 16) = b := by
        rw [← HB.out]
        refine decide_eq_decide.2 ⟨fun h => ⟨hall, ?_, ?_⟩, fun h => ?_⟩
        · have := HL.out; omega
        · have := HL.out; omega
        · have := h.2; have := HL.out; omega
      have HBE := Lib.hid hbe
      have HW := Lib.hid hbel
      clear hall hbe hbel
      go_wp2_with fail
      refine (l1In_any k 1 16 b HBE.out _).mono ?_
      rintro e w1 ⟨rfl, hw⟩
      subst hw
      go_wp2_with fail
      go_ret
      exact ⟨rfl, HW.out⟩
end Go.Proofs.YtfdbnolifimnhabDoor.L3
