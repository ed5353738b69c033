/- What impl.isSlot, slices.IndexFunc of slots, impl.slotWith, impl.AreSlots answer. -/
import Derived.Test.YtadpjkghfgnbbaaDoorSlo
import Derived.Test.YtadpjkghfgnbbaaDoorSltA
import Derived.Test.YtadpjkghfgnbbaaDoorIsIq
import Derived.Test.YtadpjkghfgnbbaaDoorIsPr
import Derived.Test.YtadpjkghfgnbbaaDoorBlk
import Derived.Deep.Cut
import Derived.Shelf.Abstract
namespace Go.Proofs.YtadpjkghfgnbbaaDoor.L8
open Go Go.RowKit Go.Shelf Go.Proofs.YtadpjkghfgnbbaaDoor.Mem Go.Proofs.YtadpjkghfgnbbaaDoor.Own Go.Proofs.YtadpjkghfgnbbaaDoor.L6
theorem ok_z (i p : Int) : decide (Ok ⟨0, i, p⟩) = decide (i = 0 ∧ p = 0) := decide_eq_decide.2 (by simp [Ok])
theorem ok_n {k : Int} (i p : Int) (hk : k = 1 ∨ k = 2 ∨ k = 3) : decide (Ok ⟨k, i, p⟩) = (decide (0 ≤ i ∧ i < 8) && decide (0 ≤ p ∧ p < 16)) := by
  rw [← Bool.decide_and]
  refine decide_eq_decide.2 ?_
  unfold Ok
  simp only
  omega
theorem ok_x {k : Int} (i p : Int) (h0 : k ≠ 0) (h1 : ¬ (k = 1 ∨ k = 2 ∨ k = 3)) : decide (Ok ⟨k, i, p⟩) = false := decide_eq_false (by
  unfold Ok
  simp only
  omega)
theorem reads_takeS {w : World} {B n k : Nat} {A : Option Addr} {xs : List Slt} (h : Reads w B 3 A n (FL xs)) (hk : k ≤ n) : Reads w B 3 A k (FL (xs.take k)) := by
  have hl : xs.length = n := reads_len h
  refine ⟨by rw [FL_len, List.length_take, Nat.min_eq_left (by omega)]; rfl, fun hp => ?_⟩
  obtain ⟨b, off, e, hb, hc⟩ := h.2 (by omega)
  refine ⟨b, off, e, hb, fun j u hu => hc j u ?_⟩
  have h1 : FL xs = FL (xs.take k) ++ FL (xs.drop k) := by rw [← FL_append, List.take_append_drop]
  rw [h1, List.getElem?_append_left (List.getElem?_eq_some_iff.1 hu).1]
  exact hu
set_option maxRecDepth 100000 in
set_option maxHeartbeats 2000000 in
theorem isSlot_c (k i p : Int) (b : Bool) (hb : decide (Ok ⟨k, i, p⟩) = b) (w : World) :
    Calls Tryd.prog 30 #[.agg #[.int .i64 k, .int .i64 i, .int .i64 p]] w fun e w' => e = .returned (.bool b) ∧ Below w.heap.size w w' := by
  by_cases h0 : k = 0
  · subst h0
    rw [ok_z] at hb
    by_cases hi : i = 0
    · by_cases hp : p = 0
      · subst hi hp
        rw [decide_eq_true ⟨rfl, rfl⟩] at hb
        subst hb
        go_enter Tryd.func30, Tryd.ntmps30
        go_wp2_with fail
        go_ret
        exact ⟨rfl, below_more (Below.refl _ _) _⟩
      · have tp : (p == 0) = false := by simpa using hp
        subst hi
        rw [decide_eq_false (fun hh => hp hh.2)] at hb
        subst hb
        go_enter Tryd.func30, Tryd.ntmps30
        go_wp2_with fail
        go_ret
        exact ⟨rfl, below_more (Below.refl _ _) _⟩
    · have ti : (i == 0) = false := by simpa using hi
      rw [decide_eq_false (fun hh => hi hh.1)] at hb
      subst hb
      go_enter Tryd.func30, Tryd.ntmps30
      go_wp2_with fail
      go_ret
      exact ⟨rfl, below_more (Below.refl _ _) _⟩
  by_cases hk : k = 1 ∨ k = 2 ∨ k = 3
  · rw [ok_n i p hk] at hb
    obtain ⟨b1, h1⟩ : ∃ q, decide (0 ≤ i ∧ i < 8) = q := ⟨_, rfl⟩
    obtain ⟨b2, h2⟩ : ∃ q, decide (0 ≤ p ∧ p < 16) = q := ⟨_, rfl⟩
    rw [h1, h2] at hb
    have H1 := Lib.hid h1
    have H2 := Lib.hid h2
    clear h1 h2 h0
    rcases hk with rfl | rfl | rfl
    all_goals
      subst hb
      cases b1
      · go_enter Tryd.func30, Tryd.ntmps30
        go_wp2_with fail
        refine (isIrq_any _ _ H1.out _).mono ?_
        rintro e w1 ⟨rfl, rfl⟩
        go_wp2_with fail
        go_ret
        exact ⟨rfl, below_more (Below.refl _ _) _⟩
      · go_enter Tryd.func30, Tryd.ntmps30
        go_wp2_with fail
        refine (isIrq_any _ _ H1.out _).mono ?_
        rintro e w1 ⟨rfl, rfl⟩
        go_wp2_with fail
        refine (isPriority_any _ _ H2.out _).mono ?_
        rintro e w1 ⟨rfl, rfl⟩
        go_wp2_with fail
        go_ret
        exact ⟨rfl, below_more (Below.refl _ _) _⟩
  · rw [ok_x i p h0 hk] at hb
    subst hb
    have t0 : (k == 0) = false := by simpa using h0
    have t1 : (k == 1) = false := by simp; omega
    have t2 : (k == 2) = false := by simp; omega
    have t3 : (k == 3) = false := by simp; omega
    clear h0 hk
    go_enter Tryd.func30, Tryd.ntmps30
    go_wp2_with fail
    go_ret
    exact ⟨rfl, below_more (Below.refl _ _) _⟩
/-- a function value that tells a property of slots, in all worlds that hold what w holds -/
def TellsS (k : Nat) (lb : Array Value) (p : Slt → Bool) (w : World) : Prop :=
  ∀ (x0 x1 x2 : Int) (w' : World), Below w.heap.size w w' → Calls Tryd.prog k (#[.agg #[.int .i64 x0, .int .i64 x1, .int .i64 x2]] ++ lb) w' fun e w'' => e = .returned (.bool (p ⟨x0, x1, x2⟩)) ∧ Below w'.heap.size w' w''
set_option maxRecDepth 100000 in
set_option maxHeartbeats 2000000 in
theorem indexFunc_any (A : Option Addr) (n c k : Nat) (lb : Array Value) (p : Slt → Bool) (eg : ∀ args w, (callFunc k args).run Tryd.prog w = .ok (.enter k args) w) (xs : List Slt) (w : World) (hr : Reads w w.heap.size 3 A n (FL xs)) (hn : n ≤ 1048576) (hp : TellsS k lb p w) :
    Calls Tryd.prog 42 #[.slice A n c, .func (.func k) #[] lb] w fun e w' => e = .returned (.int .i64 (ixOf p xs)) ∧ Below w.heap.size w w' := by
  have HL : Hid (xs.length = n) := Lib.hid (reads_len hr)
  have HP := Lib.hid hp
  have HR := Lib.hid hr
  clear hp hr
  go_enter Tryd.func42, Tryd.ntmps42
  go_wp2
  go_loopw [8] (fun i wr => ∃ (j : Nat), i = .int .i64 j ∧ j ≤ n ∧ Hid ((xs.take j).any p = false) ∧ Below w.heap.size w wr) (fun i _ => n - (intOf i).toNat)
  case atStart => exact ⟨0, rfl, Nat.zero_le _, Lib.hid (by simp), Below.refl _ _⟩
  case round =>
    obtain ⟨j, rfl, hj, HA, hbel⟩ := hrel
    by_cases hlt : j < n
    · obtain ⟨b, off, x, rfl, _, hx, c0, c1, c2⟩ := slt_at (HR.out.below hbel) hlt
      have HX := Lib.hid hx
      have HB := Lib.hid hbel
      clear hx hbel
      obtain ⟨x0, x1, x2⟩ := x
      simp only at c0 c1 c2
      have hcall := HP.out x0 x1 x2 wr HB.out
      have HT := Lib.hid (any_takeS (p := p) HX.out)
      cases hq : p ⟨x0, x1, x2⟩ with
      | true =>
        have HQ := Lib.hid hq
        rw [hq] at hcall
        clear hq
        go_wp2_with fail
        refine hcall.mono ?_
        rintro e w2 ⟨rfl, hb⟩
        clear c0 c1 c2 hcall
        go_wp2_with fail
        go_ret
        exact ⟨by rw [ixOf_at HX.out HA.out HQ.out]; rfl, below_then HB.out hb⟩
      | false =>
        have HQ := Lib.hid hq
        rw [hq] at hcall
        clear hq
        go_wp2_with fail
        refine hcall.mono ?_
        rintro e w2 ⟨rfl, hb⟩
        clear c0 c1 c2 hcall
        go_wp2_with fail
        go_roundw
        case rel => exact ⟨j + 1, by go_num, by omega, Lib.hid (by rw [HT.out, HA.out, HQ.out]; rfl), below_then HB.out hb⟩
        case measure => simp [intOf]; omega
    · have hjn : j = n := by omega
      subst hjn
      have hz : xs.any p = false := by
        have h := HA.out
        rwa [List.take_of_length_le (by rw [HL.out]; exact Nat.le_refl _)] at h
      have HZ := Lib.hid hz
      clear hz HP eg HA
      go_wp2_with fail
      go_ret
      exact ⟨by rw [ixOf_no HZ.out]; rfl, hbel⟩
set_option maxRecDepth 100000 in
theorem litHas_c (g : Nat) (q x0 x1 x2 : Int) (b : Bool) (hb : has q ⟨x0, x1, x2⟩ = b) (w : World) (k0 : w.cell? ⟨g, 0, none⟩ = some (.int .i64 q)) :
    Calls Tryd.prog 43 #[.agg #[.int .i64 x0, .int .i64 x1, .int .i64 x2], .pointer (some ⟨g, 0, none⟩)] w fun e w' => e = .returned (.bool b) ∧ Below w.heap.size w w' := by
  unfold has at hb
  simp only at hb
  by_cases h0 : x0 = 0
  · subst h0
    have hb : false = b := by simpa using hb
    subst hb
    go_enter Tryd.func43, Tryd.ntmps43
    go_wp2_with fail
    go_ret
    exact ⟨rfl, below_more (Below.refl _ _) _⟩
  · have t0 : (x0 != 0) = true := by simpa using h0
    rw [t0, Bool.true_and] at hb
    have k1 : (w.alloc (.cells #[.int .i64 x0, .int .i64 x1, .int .i64 x2] 37)).cell? ⟨g, 0, none⟩ = some (.int .i64 q) := (World.cell?_alloc_lt w _ ⟨g, 0, none⟩ (block_lt_of_cell k0)).trans k0
    clear h0 k0
    go_enter Tryd.func43, Tryd.ntmps43
    go_wp2_with fail
    go_ret
    exact ⟨rfl, below_more (Below.refl _ _) _⟩
set_option maxRecDepth 100000 in
theorem slotWith_any (A : Option Addr) (n c : Nat) (q : Int) (xs : List Slt) (w : World) (hr : Reads w w.heap.size 3 A n (FL xs)) (hn : n ≤ 1048576) :
    Calls Tryd.prog 31 #[.slice A n c, .int .i64 q] w fun e w' => e = .returned (.int .i64 (fnd xs q)) ∧ Below w.heap.size w w' := by
  have eg : ∀ args w, (callFunc 43 args).run Tryd.prog w = .ok (.enter 43 args) w := enters_of Tryd.func43 (by kernel_rfl) rfl
  have hx : Blk (w.alloc (.cells #[.int .i64 q] 3)) w.heap.size 3 #[.int .i64 q] := Blk.new _ _ _
  have hb0 : Below w.heap.size w (w.alloc (.cells #[.int .i64 q] 3)) := below_more (Below.refl _ _) _
  have hr1 := (hr.below hb0).more (hb0.size)
  have hcall := indexFunc_any A n c 43 #[.pointer (some ⟨w.heap.size, 0, none⟩)] (has q) eg xs _ hr1 hn (fun x0 x1 x2 w' hb => litHas_c w.heap.size q x0 x1 x2 _ rfl w' ((Blk.kept hb hx).cell 0 _ rfl))
  have HB0 := Lib.hid hb0
  clear hx hb0 hr hr1 eg
  go_enter Tryd.func31, Tryd.ntmps31
  go_wp2_with fail
  refine hcall.mono ?_
  rintro e w1 ⟨rfl, hb⟩
  clear hcall
  go_wp2_with fail
  go_ret
  exact ⟨rfl, below_then HB0.out hb⟩
end Go.Proofs.YtadpjkghfgnbbaaDoor.L8
