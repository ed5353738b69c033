/- What EndIrq of impl answers. -/
import Derived.Test.YtclnhdjnmfkeaaaDstC
import Derived.Deep.Cut
import Derived.Deep.RegionWith
namespace Go.Proofs.Ytclnhdjnmfkeaaa.L6
open Go Go.RowKit Go.Proofs.Ytclnhdjnmfkeaaa.Mem Go.Proofs.Ytclnhdjnmfkeaaa.Own
set_option maxRecDepth 100000 in
set_option maxHeartbeats 4000000 in
theorem implEndIrq_any (A : Option Addr) (n c : Nat) (xs : List Irq) (i : Int)  (w : World) (hr : Reads w w.heap.size 5 A n (FL xs)) (hn : n ≤ 1048576) (l : List Irq) (b : Bool) (h : chAns xs i (fun x => x.ac) (fun x => { x with ac := false }) = (l, b)) :
    Calls Try.prog 38 #[.slice A n c, .int .i64 i] w (ListPost w l b) := by
  have HR := Lib.hid hr
  have HH := Lib.hid h
  have HL : Hid (xs.length = n) := Lib.hid (reads_len hr)
  clear hr h
  by_cases hok : OkL xs
  · have HOK := Lib.hid hok
    have h8 : n = 8 := by rw [← HL.out]; exact hok.1
    subst h8
    have HA := Lib.hid (decide_eq_true hok)
    by_cases hi : 0 ≤ i ∧ i < 8
    · have HI := Lib.hid (decide_eq_true hi)
      have HQ := Lib.hid (decide_eq_true (And.intro hok hi))
      obtain ⟨k, rfl⟩ : ∃ k : Nat, i = k := ⟨i.toNat, by omega⟩
      have hk : k < 8 := by omega
      clear hok hi
      go_enter Try.func38, Try.ntmps38
      go_wp2_with fail
      refine (implAre_any A 8 c _ xs _ HR.out (Nat.le_refl _) _ HA.out).mono ?_
      rintro e w1 ⟨rfl, hb1⟩
      have HB1 := Lib.hid hb1
      clear hb1
      obtain ⟨b1, o1, x, rfl, hbB, hu, c0, c1, c2, c3, c4⟩ := irq_at (HR.out.below HB1.out) hk
      have HU := Lib.hid hu
      clear hu
      obtain ⟨x0, x1, x2, x3, x4⟩ := x
      simp only at c0 c1 c2 c3 c4
      go_wp2_with fail
      refine (isIrq_any _ _ HI.out _).mono ?_
      rintro e w2 ⟨rfl, rfl⟩
      have hx2 : (xs.getD k default).ac = x2 := by rw [getD_at HU.out]
      cases x2 with
      | true =>
        clear hx2
        obtain ⟨rfl, rfl⟩ := chAns_yes HH.out HOK.out hk HU.out (rfl)
        go_wp2_with fail
        have hbm := below_more (Below.refl w1.heap.size w1) (.cells #[.bool x0, .bool x1, .bool false, .int .i64 x3, .int .i64 x4] 53)
        have hbt := below_then HB1.out hbm
        refine (withIrq_any _ c k xs ⟨x0, x1, false, x3, x4⟩ _ ((HR.out.below hbt).more hbt.size) hk).mono ?_
        rintro e w3 ⟨g, cc, rfl, hown, hb⟩
        have HW := Lib.hid (below_then hbt hb)
        have HO := Lib.hid (own_mono hown hbt.size)
        clear hown hb hbt hbm c0 c1 c2 c3 c4
        go_wp2_with fail
        go_ret2
        exact listPost_of (by rw [List.length_set]; exact HL.out) HO.out HW.out
      | false =>
        obtain ⟨rfl, rfl⟩ := chAns_no HH.out (fun hh => by have h3 := hh.2.2; simp only [Int.toNat_natCast] at h3; rw [hx2] at h3; cases h3)
        go_wp2_with fail
        go_ret2
        exact ⟨none, 0, rfl, World.ownsRow_nil _ _ _ _, HB1.out⟩
    · have HI := Lib.hid (decide_eq_false hi)
      have HQ := Lib.hid (decide_eq_false (fun hh : OkL xs ∧ (0 ≤ i ∧ i < 8) => hi hh.2))
      obtain ⟨rfl, rfl⟩ := chAns_no HH.out (fun hh => hi hh.2.1)
      clear hok hi
      go_enter Try.func38, Try.ntmps38
      go_wp2_with fail
      refine (implAre_any A 8 c _ xs _ HR.out (Nat.le_refl _) _ HA.out).mono ?_
      rintro e w1 ⟨rfl, hb1⟩
      have HB1 := Lib.hid hb1
      clear hb1
      go_wp2_with fail
      refine (isIrq_any _ _ HI.out _).mono ?_
      rintro e w2 ⟨rfl, rfl⟩
      go_wp2_with fail
      go_ret2
      exact ⟨none, 0, rfl, World.ownsRow_nil _ _ _ _, HB1.out⟩
  · have HA := Lib.hid (decide_eq_false hok)
    have HQ := Lib.hid (decide_eq_false (fun hh : OkL xs ∧ (0 ≤ i ∧ i < 8) => hok hh.1))
    obtain ⟨rfl, rfl⟩ := chAns_no HH.out (fun hh => hok hh.1)
    clear hok
    go_enter Try.func38, Try.ntmps38
    go_wp2_with fail
    refine (implAre_any A n c _ xs _ HR.out (Nat.le_refl _) _ HA.out).mono ?_
    rintro e w1 ⟨rfl, hb1⟩
    have HB1 := Lib.hid hb1
    clear hb1
    go_wp2_with fail
    go_ret2
    exact ⟨none, 0, rfl, World.ownsRow_nil _ _ _ _, HB1.out⟩
end Go.Proofs.Ytclnhdjnmfkeaaa.L6
