/- What the comparison that impl.ReadyIrqs hands to slices.SortFunc answers. -/
import Derived.Test.YtclnhdjnmfkeaaaCmp
import Derived.Test.YtclnhdjnmfkeaaaDst
import Derived.Test.YtclnhdjnmfkeaaaIrqA
import Derived.Test.YtclnhdjnmfkeaaaSrt
import Derived.Test.YtclnhdjnmfkeaaaLayS
import Derived.Deep.RegionWith
namespace Go.Proofs.Ytclnhdjnmfkeaaa.L6
open Go Go.RowKit Go.Proofs.Ytclnhdjnmfkeaaa.Mem Go.Proofs.Ytclnhdjnmfkeaaa.Own
/-- the comparison of two interrupts -/
def cmpI (xs : List Irq) (a b : Nat) : Int := if cmpZ (prio xs a) (prio xs b) = 0 then cmpZ a b else cmpZ (prio xs a) (prio xs b)
theorem cmpI_lt (xs : List Irq) (a b : Nat) : cmpI xs a b < 0 ↔ (prio xs a < prio xs b ∨ (prio xs a = prio xs b ∧ a < b)) := by
  unfold cmpI cmpZ
  by_cases h1 : prio xs a < prio xs b
  · rw [if_pos h1]; simp [h1]
  · by_cases h2 : prio xs b < prio xs a
    · rw [if_neg h1, if_pos h2]
      simp only [show ¬ ((1 : Int) = 0) by omega, if_false]
      omega
    · rw [if_neg h1, if_neg h2]
      simp only [if_true]
      by_cases h3 : (a : Int) < b
      · rw [if_pos h3]; omega
      · rw [if_neg h3]
        split <;> omega
set_option maxRecDepth 100000 in
set_option maxHeartbeats 2000000 in
theorem rdCmp_any (g : Nat) (A : Option Addr) (c a b : Nat) (xs : List Irq) (w : World) (hb : w.cell? ⟨g, 0, none⟩ = some (.slice A 8 c)) (hr : Reads w w.heap.size 5 A 8 (FL xs)) (ha : a < 8) (hb8 : b < 8) :
    Calls Try.prog 68 #[.int .i64 a, .int .i64 b, .pointer (some ⟨g, 0, none⟩)] w fun e w' => e = .returned (.int .i64 (cmpI xs a b)) ∧ ∃ q os, w' = Sort.grow (w.drewN q) os := by
  obtain ⟨b1, o1, x, rfl, _, hu, _, _, _, c3, _⟩ := irq_at hr ha
  obtain ⟨b2, o2, y, e2, _, hv, _, _, _, d3, _⟩ := irq_at hr hb8
  simp only [Option.some.injEq, Addr.mk.injEq, and_true] at e2
  obtain ⟨rfl, rfl⟩ := e2
  have hpa : prio xs a = x.pr := by unfold prio; rw [getD_at hu]
  have hpb : prio xs b = y.pr := by unfold prio; rw [getD_at hv]
  obtain ⟨x0, x1, x2, p, x4⟩ := x
  obtain ⟨y0, y1, y2, q, y4⟩ := y
  simp only at c3 d3 hpa hpb
  obtain ⟨r1, hr1⟩ : ∃ r, cmpZ p q = r := ⟨_, rfl⟩
  obtain ⟨r2, hr2⟩ : ∃ r, cmpZ (a : Int) (b : Int) = r := ⟨_, rfl⟩
  obtain ⟨r, hr3⟩ : ∃ r, (if r1 = 0 then r2 else r1) = r := ⟨_, rfl⟩
  have HR : Hid (cmpI xs a b = r) := Lib.hid (by unfold cmpI; rw [hpa, hpb, hr1, hr2]; exact hr3)
  have H1 := Lib.hid hr1
  have H2 := Lib.hid hr2
  have H3 := Lib.hid hr3
  have haz : (a : Int) < 8 := by omega
  have hbz : (b : Int) < 8 := by omega
  rw [HR.out]
  clear hr hu hv hpa hpb hr1 hr2 hr3 HR
  go_enter Try.func68, Try.ntmps68
  go_upto_region 1 with fail
  have k0 : (w.alloc (.cells #[.int .i64 r1, .int .i64 r2] 3)).drew.cell? ⟨w.heap.size, 0, none⟩ = some (.int .i64 r1) := (Blk.new w _ _).cell 0 _ rfl
  have k1 : (w.alloc (.cells #[.int .i64 r1, .int .i64 r2] 3)).drew.cell? ⟨w.heap.size, 1, none⟩ = some (.int .i64 r2) := (Blk.new w _ _).cell 1 _ rfl
  go_region_with (first
    | (go_at_call 69; refine (or_any w.heap.size r1 r2 r H3.out _ k0 k1).mono ?_; rintro e w1 ⟨rfl, rfl⟩)
    | (go_at_call 70; first
        | ((with_reducible refine (compare_any p q r1 H1.out _).mono ?_); rintro e w1 ⟨rfl, rfl⟩)
        | ((with_reducible refine (compare_any (a : Int) (b : Int) r2 H2.out _).mono ?_); rintro e w1 ⟨rfl, rfl⟩)))
  all_goals (go_wp2_with fail; go_ret)
  all_goals exact ⟨rfl, 1, #[.cells #[.int .i64 r1, .int .i64 r2] 3], by rw [Sort.alloc_eq_grow]; rfl⟩
end Go.Proofs.Ytclnhdjnmfkeaaa.L6
