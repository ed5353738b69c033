/- What BeginIrq of impl answers. -/
import Derived.Test.YtclnhdjnmfkeaaaDstC
import Derived.Deep.Cut
import Derived.Deep.RegionWith
import Derived.Lib.QuietBelow
import Derived.Deep.QuietTactic
namespace Go.Proofs.Ytclnhdjnmfkeaaa.L6
open Go Go.RowKit Go.Proofs.Ytclnhdjnmfkeaaa.Mem Go.Proofs.Ytclnhdjnmfkeaaa.Own
set_option maxRecDepth 100000 in
set_option maxHeartbeats 8000000 in
theorem implBeginIrq_any (A : Option Addr) (n c : Nat) (xs : List Irq) (i : Int)  (w : World) (hr : Reads w w.heap.size 5 A n (FL xs)) (hn : n ≤ 1048576) (l : List Irq) (b : Bool) (h : chAns xs i rdyOwn (fun x => { x with ac := true, pe := false }) = (l, b)) :
    Calls Try.prog 36 #[.slice A n c, .int .i64 i] w (ListPost w l b) := by
  have HR := Lib.hid hr
  have HH := Lib.hid h
  have HL : Hid (xs.length = n) := Lib.hid (reads_len hr)
  clear hr h
  by_cases hok : OkL xs
  · have HOK := Lib.hid hok
    have h8 : n = 8 := by rw [← HL.out]; exact hok.1
    subst h8
    have HA := Lib.hid (decide_eq_true hok)
    by_cases hi : 0 ≤ i ∧ i < 8
    · have HI := Lib.hid (decide_eq_true hi)
      have HQ := Lib.hid (decide_eq_true (And.intro hok hi))
      obtain ⟨k, rfl⟩ : ∃ k : Nat, i = k := ⟨i.toNat, by omega⟩
      have hk : k < 8 := by omega
      clear hok hi
      obtain ⟨x, hu⟩ : ∃ x, xs[k]? = some x := ⟨_, List.getElem?_eq_getElem (by rw [HL.out]; exact hk)⟩
      have HU := Lib.hid hu
      clear hu
      obtain ⟨x0, x1, x2, x3, x4⟩ := x
      have hx2 : rdyOwn (xs.getD k default) = rdyOwn ⟨x0, x1, x2, x3, x4⟩ := by rw [getD_at HU.out]
      obtain ⟨q, hq⟩ : ∃ q, rdyOwn ⟨x0, x1, x2, x3, x4⟩ = q := ⟨_, rfl⟩
      rw [hq] at hx2
      have HX2 := Lib.hid hx2
      have HQ2 := Lib.hid hq
      clear hq hx2
      have HQ3 : Hid (isRdy x4 ⟨x0, x1, x2, x3, x4⟩ = q) := Lib.hid ((rdyOwn_tg ⟨x0, x1, x2, x3, x4⟩).trans HQ2.out)
      obtain ⟨b1, o1, x, rfl, hbB, hu, c0, c1, c2, c3, c4⟩ := irq_at HR.out hk
      have hux := Option.some.inj (HU.out.symm.trans hu)
      subst hux
      clear hu
      simp only at c0 c1 c2 c3 c4
      have hkz : (k : Int) < 8 := by omega
      replace c0 := cell_regrown c0
      replace c1 := cell_regrown c1
      replace c2 := cell_regrown c2
      replace c3 := cell_regrown c3
      replace c4 := cell_regrown c4
      cases q with
      | true =>
        obtain ⟨rfl, rfl⟩ := chAns_yes HH.out HOK.out hk HU.out (HQ2.out)
        have cA : ∀ d os, Calls Try.prog 18 #[.slice (some ⟨b1, o1, none⟩) 8 c] (Sort.grow (redrawn w d) os) fun e w3 => e = .returned (.bool _) ∧ ∃ p : Regrown, w3 = Sort.grow (redrawn w p.d) p.os := fun d os => Calls.regrown_of (implAre_any (some ⟨b1, o1, none⟩) 8 c w.heap.size xs (Sort.grow (redrawn w d) os) (HR.out.below (below_regrown w d os)) (below_regrown w d os).size _ HA.out)
        have cI : ∀ d os, Calls Try.prog 61 #[.int .i64 k] (Sort.grow (redrawn w d) os) fun e w3 => e = .returned (.bool _) ∧ ∃ p : Regrown, w3 = Sort.grow (redrawn w p.d) p.os := fun d os => Calls.regrown_of ((isIrq_any _ _ HI.out (Sort.grow (redrawn w d) os)).mono fun _ _ h => ⟨h.1, h.2 ▸ Below.refl _ _⟩)
        have cR : ∀ d os, Calls Try.prog 66 #[.agg #[.bool x0, .bool x1, .bool x2, .int .i64 x3, .int .i64 x4], .int .i64 x4] (Sort.grow (redrawn w d) os) fun e w3 => e = .returned (.bool _) ∧ ∃ p : Regrown, w3 = Sort.grow (redrawn w p.d) p.os := fun d os => Calls.regrown_of (isReady_c x0 x1 x2 x3 x4 x4 _ HQ3.out (Sort.grow (redrawn w d) os))
        go_enter Try.func36, Try.ntmps36
        go_upto_region 1 with fail
        refine wp_region_quiet_below (by kernel_rfl) (by kernel_rfl) ?_
        generalize hz : Act.mk _ _ = a0
        repeat (refine wpQuiet_step (fun K hK => ?_); subst hz; go_simp; first | (generalize hz : Act.mk _ _ = a0; refine hK a0 ?_; clear hK K) | (rw [if_neg (by simp [undef])]; generalize hz : Act.mk _ _ = a0; refine hK a0 ?_; clear hK K) | (apply Exists.intro; refine ⟨fun _ => ?_, hK _ ?_⟩; (first | exact cA _ _ | exact cI _ _ | exact cR _ _); clear hK K; generalize hz : Act.mk _ _ = a0))
        refine wpQuiet_nil ?_
        subst hz
        intro _ hw3
        obtain ⟨⟨dq, osq⟩, hw4⟩ := hw3
        subst hw4
        have HB2 : Hid (Below w.heap.size w (Sort.grow (redrawn w dq) osq)) := Lib.hid (below_regrown w dq osq)
        replace c0 := c0 dq osq
        replace c1 := c1 dq osq
        replace c2 := c2 dq osq
        replace c3 := c3 dq osq
        replace c4 := c4 dq osq
        clear cA cI cR
        revert HB2 c0 c1 c2 c3 c4
        generalize (Sort.grow (redrawn w dq) osq) = w2
        intro HB2 c0 c1 c2 c3 c4
        go_wp2_with fail
        have hbm := below_more (Below.refl w2.heap.size w2) (.cells #[.bool x0, .bool false, .bool true, .int .i64 x3, .int .i64 x4] 53)
        have hbt := below_then HB2.out hbm
        refine (withIrq_any _ c k xs ⟨x0, false, true, x3, x4⟩ _ ((HR.out.below hbt).more hbt.size) hk).mono ?_
        rintro e w3 ⟨g, cc, rfl, hown, hb⟩
        have HW := Lib.hid (below_then hbt hb)
        have HO := Lib.hid (own_mono hown hbt.size)
        clear hown hb hbt hbm c0 c1 c2 c3 c4
        go_wp2_with fail
        go_ret2
        exact listPost_of (by rw [List.length_set]; exact HL.out) HO.out HW.out
      | false =>
        obtain ⟨rfl, rfl⟩ := chAns_no HH.out (fun hh => by have h3 := hh.2.2; simp only [Int.toNat_natCast] at h3; rw [HX2.out] at h3; cases h3)
        have HB1 := Lib.hid (Below.refl w.heap.size w)
        have cA : ∀ d os, Calls Try.prog 18 #[.slice (some ⟨b1, o1, none⟩) 8 c] (Sort.grow (redrawn w d) os) fun e w3 => e = .returned (.bool _) ∧ ∃ p : Regrown, w3 = Sort.grow (redrawn w p.d) p.os := fun d os => Calls.regrown_of (implAre_any (some ⟨b1, o1, none⟩) 8 c w.heap.size xs (Sort.grow (redrawn w d) os) (HR.out.below (below_regrown w d os)) (below_regrown w d os).size _ HA.out)
        have cI : ∀ d os, Calls Try.prog 61 #[.int .i64 k] (Sort.grow (redrawn w d) os) fun e w3 => e = .returned (.bool _) ∧ ∃ p : Regrown, w3 = Sort.grow (redrawn w p.d) p.os := fun d os => Calls.regrown_of ((isIrq_any _ _ HI.out (Sort.grow (redrawn w d) os)).mono fun _ _ h => ⟨h.1, h.2 ▸ Below.refl _ _⟩)
        have cR : ∀ d os, Calls Try.prog 66 #[.agg #[.bool x0, .bool x1, .bool x2, .int .i64 x3, .int .i64 x4], .int .i64 x4] (Sort.grow (redrawn w d) os) fun e w3 => e = .returned (.bool _) ∧ ∃ p : Regrown, w3 = Sort.grow (redrawn w p.d) p.os := fun d os => Calls.regrown_of (isReady_c x0 x1 x2 x3 x4 x4 _ HQ3.out (Sort.grow (redrawn w d) os))
        go_enter Try.func36, Try.ntmps36
        go_upto_region 1 with fail
        refine wp_region_quiet_below (by kernel_rfl) (by kernel_rfl) ?_
        generalize hz : Act.mk _ _ = a0
        repeat (refine wpQuiet_step (fun K hK => ?_); subst hz; go_simp; first | (generalize hz : Act.mk _ _ = a0; refine hK a0 ?_; clear hK K) | (rw [if_neg (by simp [undef])]; generalize hz : Act.mk _ _ = a0; refine hK a0 ?_; clear hK K) | (apply Exists.intro; refine ⟨fun _ => ?_, hK _ ?_⟩; (first | exact cA _ _ | exact cI _ _ | exact cR _ _); clear hK K; generalize hz : Act.mk _ _ = a0))
        refine wpQuiet_nil ?_
        subst hz
        intro _ hw3
        obtain ⟨⟨dq, osq⟩, hw4⟩ := hw3
        subst hw4
        have HB2 : Hid (Below w.heap.size w (Sort.grow (redrawn w dq) osq)) := Lib.hid (below_regrown w dq osq)
        replace c0 := c0 dq osq
        replace c1 := c1 dq osq
        replace c2 := c2 dq osq
        replace c3 := c3 dq osq
        replace c4 := c4 dq osq
        clear cA cI cR
        revert HB2 c0 c1 c2 c3 c4
        generalize (Sort.grow (redrawn w dq) osq) = w2
        intro HB2 c0 c1 c2 c3 c4
        go_wp2_with fail
        go_ret2
        exact ⟨none, 0, rfl, World.ownsRow_nil _ _ _ _, HB2.out⟩
    · have HI := Lib.hid (decide_eq_false hi)
      have HQ := Lib.hid (decide_eq_false (fun hh : OkL xs ∧ (0 ≤ i ∧ i < 8) => hi hh.2))
      obtain ⟨rfl, rfl⟩ := chAns_no HH.out (fun hh => hi hh.2.1)
      clear hok hi
      have cA : ∀ d os, Calls Try.prog 18 #[.slice A 8 c] (Sort.grow (redrawn w d) os) fun e w3 => e = .returned (.bool _) ∧ ∃ p : Regrown, w3 = Sort.grow (redrawn w p.d) p.os := fun d os => Calls.regrown_of (implAre_any A 8 c w.heap.size xs (Sort.grow (redrawn w d) os) (HR.out.below (below_regrown w d os)) (below_regrown w d os).size _ HA.out)
      have cI : ∀ d os, Calls Try.prog 61 #[.int .i64 i] (Sort.grow (redrawn w d) os) fun e w3 => e = .returned (.bool _) ∧ ∃ p : Regrown, w3 = Sort.grow (redrawn w p.d) p.os := fun d os => Calls.regrown_of ((isIrq_any _ _ HI.out (Sort.grow (redrawn w d) os)).mono fun _ _ h => ⟨h.1, h.2 ▸ Below.refl _ _⟩)
      go_enter Try.func36, Try.ntmps36
      go_upto_region 1 with fail
      refine wp_region_quiet_below (by kernel_rfl) (by kernel_rfl) ?_
      generalize hz : Act.mk _ _ = a0
      repeat (refine wpQuiet_step (fun K hK => ?_); subst hz; go_simp; first | (generalize hz : Act.mk _ _ = a0; refine hK a0 ?_; clear hK K) | (rw [if_neg (by simp [undef])]; generalize hz : Act.mk _ _ = a0; refine hK a0 ?_; clear hK K) | (apply Exists.intro; refine ⟨fun _ => ?_, hK _ ?_⟩; (first | exact cA _ _ | exact cI _ _); clear hK K; generalize hz : Act.mk _ _ = a0))
      refine wpQuiet_nil ?_
      subst hz
      intro _ hw3
      obtain ⟨⟨dq, osq⟩, hw4⟩ := hw3
      subst hw4
      have HB2 : Hid (Below w.heap.size w (Sort.grow (redrawn w dq) osq)) := Lib.hid (below_regrown w dq osq)
      clear cA cI
      revert HB2 
      generalize (Sort.grow (redrawn w dq) osq) = w2
      intro HB2 
      go_wp2_with fail
      go_ret2
      exact ⟨none, 0, rfl, World.ownsRow_nil _ _ _ _, HB2.out⟩
  · have HA := Lib.hid (decide_eq_false hok)
    have HQ := Lib.hid (decide_eq_false (fun hh : OkL xs ∧ (0 ≤ i ∧ i < 8) => hok hh.1))
    obtain ⟨rfl, rfl⟩ := chAns_no HH.out (fun hh => hok hh.1)
    clear hok
    have cA : ∀ d os, Calls Try.prog 18 #[.slice A n c] (Sort.grow (redrawn w d) os) fun e w3 => e = .returned (.bool _) ∧ ∃ p : Regrown, w3 = Sort.grow (redrawn w p.d) p.os := fun d os => Calls.regrown_of (implAre_any A n c w.heap.size xs (Sort.grow (redrawn w d) os) (HR.out.below (below_regrown w d os)) (below_regrown w d os).size _ HA.out)
    go_enter Try.func36, Try.ntmps36
    go_upto_region 1 with fail
    refine wp_region_quiet_below (by kernel_rfl) (by kernel_rfl) ?_
    generalize hz : Act.mk _ _ = a0
    repeat (refine wpQuiet_step (fun K hK => ?_); subst hz; go_simp; first | (generalize hz : Act.mk _ _ = a0; refine hK a0 ?_; clear hK K) | (rw [if_neg (by simp [undef])]; generalize hz : Act.mk _ _ = a0; refine hK a0 ?_; clear hK K) | (apply Exists.intro; refine ⟨fun _ => ?_, hK _ ?_⟩; (exact cA _ _); clear hK K; generalize hz : Act.mk _ _ = a0))
    refine wpQuiet_nil ?_
    subst hz
    intro _ hw3
    obtain ⟨⟨dq, osq⟩, hw4⟩ := hw3
    subst hw4
    have HB2 : Hid (Below w.heap.size w (Sort.grow (redrawn w dq) osq)) := Lib.hid (below_regrown w dq osq)
    clear cA
    revert HB2 
    generalize (Sort.grow (redrawn w dq) osq) = w2
    intro HB2 
    go_wp2_with fail
    go_ret2
    exact ⟨none, 0, rfl, World.ownsRow_nil _ _ _ _, HB2.out⟩
end Go.Proofs.Ytclnhdjnmfkeaaa.L6
