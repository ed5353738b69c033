/- What chapter 4's small functions on entries answer, of impl. -/
import Derived.Test.YtaamjnpknmimmabTab
import Derived.Test.YtaamjnpknmimmabIsB
namespace Go.Proofs.Ytaamjnpknmimmab.L4
open Go Go.RowKit Go.Proofs.Ytaamjnpknmimmab.Mem Go.Proofs.Ytaamjnpknmimmab.Own
theorem isFrame_any (x : Int) (b : Bool) (hb : decide (0 ≤ x ∧ x < 16) = b) (w : World) :
    Calls Try.prog 73 #[.int .i64 x] w fun e w' => e = .returned (.bool b) ∧ w = w' := by
  go_enter Try.func73, Try.ntmps73
  go_wp2_with fail
  refine (isBelow_any x 16 b hb _).mono ?_
  rintro e w1 ⟨rfl, rfl⟩
  go_wp2_with fail
  go_ret
  exact ⟨rfl, rfl⟩
theorem isPage_any (x : Int) (b : Bool) (hb : decide (0 ≤ x ∧ x < 16) = b) (w : World) :
    Calls Try.prog 55 #[.int .i64 x] w fun e w' => e = .returned (.bool b) ∧ w = w' := by
  go_enter Try.func55, Try.ntmps55
  go_wp2_with fail
  refine (isBelow_any x 16 b hb _).mono ?_
  rintro e w1 ⟨rfl, rfl⟩
  go_wp2_with fail
  go_ret
  exact ⟨rfl, rfl⟩
theorem hasFrame_any (f : Int) (wr : Bool) (b : Bool) (hb : decide (f ≠ -1) = b) (w : World) :
    Calls Try.prog 71 #[.agg #[.int .i64 f, .bool wr]] w fun e w' => e = .returned (.bool b) ∧ Below w.heap.size w w' := by
  subst hb
  by_cases h : f = -1
  · subst h
    go_enter Try.func71, Try.ntmps71
    go_wp2
    go_ret
    exact ⟨rfl, below_more (Below.refl _ _) _⟩
  · have h2 : (f != -1) = true := by simpa using h
    rw [decide_eq_true h]
    go_enter Try.func71, Try.ntmps71
    go_wp2
    go_ret
    exact ⟨rfl, below_more (Below.refl _ _) _⟩
theorem isWrongEntry_any (f : Int) (wr : Bool) (b : Bool) (hb : decide (Wrong ⟨f, wr⟩) = b) (w : World) :
    Calls Try.prog 108 #[.agg #[.int .i64 f, .bool wr]] w fun e w' => e = .returned (.bool b) ∧ Below w.heap.size w w' := by
  have HBK : Hid (Blk (w.alloc (.cells #[.int .i64 f, .bool wr] 70)) w.heap.size 70 #[.int .i64 f, .bool wr]) := Lib.hid (Blk.new _ _ _)
  have HB0 := Lib.hid (below_more (Below.refl w.heap.size w) (.cells #[.int .i64 f, .bool wr] 70))
  have HB := Lib.hid hb
  clear hb
  by_cases h : f = -1
  · subst h
    go_enter Try.func108, Try.ntmps108
    go_wp2_with fail
    refine (hasFrame_any (-1) wr false (by decide) _).mono ?_
    rintro e w1 ⟨rfl, hb⟩
    have k1 := (Blk.kept hb HBK.out).cell 1 _ rfl
    have HW := Lib.hid (below_then HB0.out hb)
    clear hb
    have HR : Hid (wr = b) := Lib.hid (by rw [← HB.out]; unfold Wrong; simp)
    go_wp2_with fail
    go_ret
    exact ⟨by rw [← HR.out]; rfl, HW.out⟩
  · go_enter Try.func108, Try.ntmps108
    go_wp2_with fail
    refine (hasFrame_any f wr true (by simpa using h) _).mono ?_
    rintro e w1 ⟨rfl, hb⟩
    have k0 := (Blk.kept hb HBK.out).cell 0 _ rfl
    have HW := Lib.hid (below_then HB0.out hb)
    clear hb
    obtain ⟨q, hq⟩ : ∃ q, decide (0 ≤ f ∧ f < 16) = q := ⟨_, rfl⟩
    have HR : Hid ((!q) = b) := Lib.hid (by rw [← HB.out, ← hq]; unfold Wrong; simp only [h, if_false]; exact (decide_not).symm)
    go_wp2_with fail
    refine (isFrame_any f q hq _).mono ?_
    rintro e w2 ⟨rfl, rfl⟩
    go_wp2_with fail
    go_ret
    exact ⟨by rw [← HR.out]; rfl, HW.out⟩
end Go.Proofs.Ytaamjnpknmimmab.L4
