/- What spec.l4Leaf, l4Good, IsTable answer. -/
import Derived.Test.YtaamjnpknmimmabIsTI
import Derived.Test.YtaamjnpknmimmabTabP
import Derived.Test.YtaamjnpknmimmabIn
import Derived.Test.YtaamjnpknmimmabHas
namespace Go.Proofs.Ytaamjnpknmimmab.L4
open Go Go.RowKit Go.Proofs.Ytaamjnpknmimmab.Mem Go.Proofs.Ytaamjnpknmimmab.Own Go.Proofs.Ytaamjnpknmimmab.L1
set_option maxRecDepth 100000 in
set_option maxHeartbeats 2000000 in
theorem l4Leaf_any (A : Option Addr) (n c B : Nat) (xs : List Ent) (w : World) (hr : Reads w B 2 A n (FL xs)) (hn : n ≤ 1048576) (b : Bool) (hb : decide (OkL xs) = b) :
    Calls Try.prog 53 #[.slice A n c] w fun e w' => e = .returned (.bool b) ∧ w = w' := by
  have HL : Hid (xs.length = n) := Lib.hid (reads_len hr)
  have HB := Lib.hid hb
  clear hb
  go_enter Try.func53, Try.ntmps53
  go_wp2
  go_loopw [3, 4] (fun s i wr => ∃ (k : Nat) (q : Bool), i = .int .i64 k ∧ s = .bool q ∧ k ≤ n ∧ Hid ((xs.take k).any (fun x => decide (Wrong x)) = false) ∧ Hid ((xs.take k).any (fun x => decide (x.f ≠ -1)) = q) ∧ wr = w) (fun _ i _ => n - (intOf i).toNat)
  case atStart => exact ⟨0, false, rfl, rfl, Nat.zero_le _, Lib.hid (by simp), Lib.hid (by simp), rfl⟩
  case round =>
    obtain ⟨k, q, rfl, rfl, hk, HA, HS, rfl⟩ := hrel
    by_cases hlt : k < n
    · obtain ⟨b1, o1, x, rfl, _, hx, c0, c1⟩ := ent_at hr hlt
      have HX := Lib.hid hx
      have HT := Lib.hid (any_take (p := fun x => decide (Wrong x)) hx)
      have HU := Lib.hid (any_take (p := fun x => decide (x.f ≠ -1)) hx)
      clear hx
      obtain ⟨f, wr_⟩ := x
      have bad : Wrong ⟨f, wr_⟩ → Hid (b = false) := fun hw => Lib.hid (by
        rw [← HB.out]
        exact decide_eq_false fun h => h.2.2 _ (List.mem_of_getElem? HX.out) hw)
      by_cases hf : f < -1 ∨ 15 < f
      · have HF := bad (by unfold Wrong; simp only; rw [if_neg (by omega)]; omega)
        clear bad
        go_wp2_with fail
        refine (l1In_no f (-1) 15 hf _).mono ?_
        rintro e w1 ⟨rfl, hw⟩
        subst hw
        go_wp2_with fail
        go_ret
        exact ⟨by rw [HF.out]; rfl, rfl⟩
      · by_cases h1 : f = -1
        · subst h1
          cases wr_ with
          | true =>
            have HF := bad (by unfold Wrong; simp)
            clear bad
            go_wp2_with fail
            refine (l1In_yes (-1) (-1) 15 (by omega) (by omega) _).mono ?_
            rintro e w1 ⟨rfl, hw⟩
            subst hw
            go_wp2_with fail
            go_ret
            exact ⟨by rw [HF.out]; rfl, rfl⟩
          | false =>
            clear bad
            have HT2 : Hid ((xs.take (k + 1)).any (fun x => decide (Wrong x)) = false) := Lib.hid (by rw [HT.out, HA.out]; decide)
            have HU2 : Hid ((xs.take (k + 1)).any (fun x => decide (x.f ≠ -1)) = q) := Lib.hid (by rw [HU.out, HS.out]; simp)
            clear HT HU
            go_wp2_with fail
            refine (l1In_yes (-1) (-1) 15 (by omega) (by omega) _).mono ?_
            rintro e w1 ⟨rfl, hw⟩
            subst hw
            cases q
            · go_wp2_with fail
              go_roundw
              case rel => exact ⟨k + 1, false, by go_num, rfl, by omega, HT2, HU2, trivial⟩
              case measure => simp [intOf]; omega
            · go_wp2_with fail
              go_roundw
              case rel => exact ⟨k + 1, true, by go_num, rfl, by omega, HT2, HU2, trivial⟩
              case measure => simp [intOf]; omega
        · clear bad
          have hfb : (f == -1) = false := by simpa using h1
          have hfc : (f != -1) = true := by simpa using h1
          have HT2 : Hid ((xs.take (k + 1)).any (fun x => decide (Wrong x)) = false) := Lib.hid (by
            rw [HT.out, HA.out]
            have : ¬ Wrong ⟨f, wr_⟩ := by unfold Wrong; simp only; rw [if_neg h1]; omega
            simpa using this)
          have HU2 : Hid ((xs.take (k + 1)).any (fun x => decide (x.f ≠ -1)) = true) := Lib.hid (by rw [HU.out]; simp [h1])
          clear HT HU
          go_wp2_with fail
          refine (l1In_yes f (-1) 15 (by omega) (by omega) _).mono ?_
          rintro e w1 ⟨rfl, hw⟩
          subst hw
          cases q
          · go_wp2_with fail
            go_roundw
            case rel => exact ⟨k + 1, true, by go_num, rfl, by omega, HT2, HU2, trivial⟩
            case measure => simp [intOf]; omega
          · go_wp2_with fail
            go_roundw
            case rel => exact ⟨k + 1, true, by go_num, rfl, by omega, HT2, HU2, trivial⟩
            case measure => simp [intOf]; omega
    · have hkn : k = n := by omega
      subst hkn
      have HE : Hid (b = (q && decide (k = 4))) := Lib.hid (by
        have h1 := HA.out
        have h2 := HS.out
        rw [List.take_of_length_le (by rw [HL.out]; exact Nat.le_refl _)] at h1 h2
        rw [← HB.out, Bool.eq_iff_iff, decide_eq_true_iff, okL_iff, HL.out, h1, h2]
        cases q <;> simp)
      cases q
      · go_wp2_with fail
        go_ret
        exact ⟨by rw [HE.out]; rfl, rfl⟩
      · by_cases h4 : k = 4
        · subst h4
          go_wp2_with fail
          go_ret
          exact ⟨by rw [HE.out]; rfl, rfl⟩
        · have h5 : ((k : Int) == 4) = false := by simp; omega
          have h6 : decide (k = 4) = false := decide_eq_false h4
          rw [h6] at HE
          go_wp2_with fail
          go_ret
          exact ⟨by rw [HE.out]; rfl, rfl⟩
theorem I_take (zs : List Int) (k : Nat) : I (zs.take k) = (I zs).take k := by simp [I]
/-- what l4Good knows of the first k directories -/
def Fine (ds : List Int) (m k : Nat) : Prop := ∀ (j : Nat) (z : Int), j < k → ds[j]? = some z → z ≠ -1 → (0 ≤ z ∧ z < m) ∧ z ∉ ds.take j
theorem fine_succ {ds : List Int} {m k : Nat} {z : Int} (h : Fine ds m k) (hz : ds[k]? = some z) (h2 : z ≠ -1 → (0 ≤ z ∧ z < m) ∧ z ∉ ds.take k) : Fine ds m (k + 1) := by
  intro j y hj hy hne
  by_cases e : j = k
  · subst e
    rw [hz] at hy
    obtain rfl := Option.some.inj hy
    exact h2 hne
  · exact h j y (by omega) hy hne
set_option maxRecDepth 100000 in
set_option maxHeartbeats 4000000 in
theorem l4Good_any (A : Option Addr) (n c : Nat) (D : Option Addr) (m d : Nat) (t : Tab) (w : World) (hr : ReadsT w w.heap.size A n D m t) (hn : n ≤ 1048576) (hm : m ≤ 1048576) (hl : ∀ xs ∈ t.leaves, xs.length ≤ 1048576) (hnc : n ≤ c) (b : Bool) (hb : decide (OkT t) = b) :
    Calls Try.prog 67 #[.agg #[.slice A n c, .slice D m d]] w fun e w' => e = .returned (.bool b) ∧ Below w.heap.size w w' := by
  have hb' : decide (Good t) = b := by rw [← hb]; exact decide_eq_decide.2 (good_iff t).symm
  have HB := Lib.hid hb'
  have HL : Hid (t.dirs.length = n) := Lib.hid hr.dlen
  have HM : Hid (t.leaves.length = m) := Lib.hid hr.leaves.len
  clear hb hb'
  by_cases h4 : n = 4
  · subst h4
    by_cases hm4 : m ≤ 4
    · obtain ⟨wb, hwb⟩ : ∃ wb, w.alloc (.cells #[.slice A 4 c, .slice D m d] 29) = wb := ⟨_, rfl⟩
      have hb0 : Below w.heap.size w wb := by rw [← hwb]; exact below_more (Below.refl _ _) _
      have hB0 : Blk wb w.heap.size 29 #[.slice A 4 c, .slice D m d] := by rw [← hwb]; exact Blk.new _ _ _
      have k0 := hB0.cell 0 _ rfl
      have k1 := hB0.cell 1 _ rfl
      have HK := Lib.hid hB0
      have HR := Lib.hid (hr.grow hb0)
      have HB0 := Lib.hid hb0
      have HWB := Lib.hid hwb
      clear hr hb0 hB0 hwb
      go_enter Try.func67, Try.ntmps67
      go_wp2
      rw [HWB.out]
      clear HWB
      go_loopw [3, 4] (fun u i wr => ∃ (k q : Nat), i = .int .i64 k ∧ u = .int .i64 q ∧ k ≤ 4 ∧ q ≤ k ∧ Hid (Fine t.dirs m k) ∧ Hid (used (t.dirs.take k) = q) ∧ Hid (Below wb.heap.size wb wr)) (fun _ i _ => 4 - (intOf i).toNat)
      case atStart => exact ⟨0, 0, rfl, rfl, Nat.zero_le _, Nat.le_refl _, Lib.hid (by intro j z hj; omega), Lib.hid (by simp [used]), Lib.hid (Below.refl _ _)⟩
      case round =>
        clear k0 k1
        obtain ⟨k, q, rfl, rfl, hk, hq, HA, HU, HBL⟩ := hrel
        have HRR := Lib.hid (HR.out.grow HBL.out)
        have k0 := (Blk.kept HBL.out HK.out).cell 0 _ rfl
        have k1 := (Blk.kept HBL.out HK.out).cell 1 _ rfl
        by_cases hlt : k < 4
        · obtain ⟨b1, o1, z, rfl, _, hu, hc⟩ := HRR.out.dirs.int_at hlt
          have HUZ := Lib.hid hu
          have HUT := Lib.hid (used_take hu)
          have HTK : Hid (Reads wr wr.heap.size 1 (some ⟨b1, o1, none⟩) k (I (t.dirs.take k))) := Lib.hid (by rw [I_take]; exact Reads.take HRR.out.dirs (by omega))
          clear hu
          by_cases hz : z = -1
          · have HF2 := Lib.hid (fine_succ HA.out HUZ.out (fun h => absurd hz h))
            have HU2 : Hid (used (t.dirs.take (k + 1)) = q) := Lib.hid (by rw [HUT.out, HU.out, if_pos hz]; rfl)
            subst hz
            go_wp2_with fail
            go_roundw
            case rel => exact ⟨k + 1, q, by go_num, rfl, by omega, by omega, HF2, HU2, HBL⟩
            case measure => simp [intOf]; omega
          · have hzb : (z == -1) = false := by simpa using hz
            have e1 : IntKind.i64.wrap ((m : Int) - 1) = (m : Int) - 1 := IntWalk.i64_in _ (by omega)
            have e2 : IntKind.i64.wrap ((q : Int) + 1) = (q : Int) + 1 := IntWalk.i64_in _ (by omega)
            have HUN : Hid (used (t.dirs.take (k + 1)) = q + 1) := Lib.hid (by rw [HUT.out, HU.out, if_neg hz])
            by_cases hin : 0 ≤ z ∧ z < m
            · cases hhas : decide (z ∈ t.dirs.take k) with
              | true =>
                have HH := Lib.hid hhas
                have HF : Hid (b = false) := Lib.hid (by
                  rw [← HB.out]
                  exact decide_eq_false fun h => (h.2.2.1 k z HUZ.out hz).2 (of_decide_eq_true HH.out))
                clear hhas
                go_wp2_with fail
                go_quiet (first | (go_at_call 68; (with_reducible refine Calls.quiet_of_same ((l1In_yes z 0 ((m : Int) - 1) hin.1 (by omega) _).mono fun _ _ h => ⟨h.1, h.2.symm⟩))) | (go_at_call 90; (with_reducible refine Calls.quiet_of_same ((l1Has_any (some ⟨b1, o1, none⟩) k c _ (t.dirs.take k) z _ (HTK.out.drewN _) (by omega) true HH.out).mono fun _ _ h => ⟨h.1, h.2.symm⟩))))
                have HB2 := Lib.hid (HBL.out.trans ((Own.below_drewN wr nq).mono HBL.out.size))
                go_wp2_with fail
                go_ret
                exact ⟨by rw [HF.out]; rfl, below_then HB0.out HB2.out⟩
              | false =>
                have HH := Lib.hid hhas
                have HF2 := Lib.hid (fine_succ HA.out HUZ.out (fun _ => ⟨hin, of_decide_eq_false hhas⟩))
                clear hhas
                go_wp2_with fail
                go_quiet (first | (go_at_call 68; (with_reducible refine Calls.quiet_of_same ((l1In_yes z 0 ((m : Int) - 1) hin.1 (by omega) _).mono fun _ _ h => ⟨h.1, h.2.symm⟩))) | (go_at_call 90; (with_reducible refine Calls.quiet_of_same ((l1Has_any (some ⟨b1, o1, none⟩) k c _ (t.dirs.take k) z _ (HTK.out.drewN _) (by omega) false HH.out).mono fun _ _ h => ⟨h.1, h.2.symm⟩))))
                have HB2 := Lib.hid (HBL.out.trans ((Own.below_drewN wr nq).mono HBL.out.size))
                go_wp2_with fail
                go_roundw
                case rel => exact ⟨k + 1, q + 1, by go_num, by go_num, by omega, by omega, HF2, HUN, HB2⟩
                case measure => simp [intOf]; omega
            · have HF : Hid (b = false) := Lib.hid (by
                rw [← HB.out]
                refine decide_eq_false fun h => hin ?_
                have := (h.2.2.1 k z HUZ.out hz).1
                rwa [HM.out] at this)
              go_wp2_with fail
              go_quiet ((go_at_call 68; (with_reducible refine Calls.quiet_of_same ((l1In_no z 0 ((m : Int) - 1) (by omega) _).mono fun _ _ h => ⟨h.1, h.2.symm⟩))))
              have HB2 := Lib.hid (HBL.out.trans ((Own.below_drewN wr nq).mono HBL.out.size))
              go_wp2_with fail
              go_ret
              exact ⟨by rw [HF.out]; rfl, below_then HB0.out HB2.out⟩
        · have hk4 : k = 4 := by omega
          subst hk4
          have HU4 : Hid (used t.dirs = q) := Lib.hid (by have h := HU.out; rwa [List.take_of_length_le (by rw [HL.out]; exact Nat.le_refl _)] at h)
          have HW := Lib.hid (below_then HB0.out HBL.out)
          go_wp2
          go_loopw [5] (fun i wz => ∃ (k : Nat), i = .int .i64 k ∧ k ≤ m ∧ Hid (∀ l ∈ t.leaves.take k, OkL l) ∧ wz = wr) (fun i _ => m - (intOf i).toNat)
          case atStart => exact ⟨0, rfl, Nat.zero_le _, Lib.hid (by simp), rfl⟩
          case round =>
            obtain ⟨k, rfl, hk, HQ, rfl⟩ := hrel
            by_cases hlt : k < m
            · obtain ⟨b1, o1, A1, n1, c1, xs, rfl, _, hu, hc, hx, rfl, _⟩ := HRR.out.leaves.at_ hlt
              have hln : xs.length ≤ 1048576 := hl xs (List.mem_of_getElem? hu)
              have HX := Lib.hid hx
              have HUX := Lib.hid hu
              clear hx hu
              cases hq : decide (OkL xs) with
              | true =>
                have HO := Lib.hid hq
                clear hq
                have HN : Hid (∀ l ∈ t.leaves.take (k + 1), OkL l) := Lib.hid (by
                  intro l hl2
                  rw [List.take_add_one, HUX.out] at hl2
                  rcases List.mem_append.1 hl2 with h1 | h1
                  · exact HQ.out l h1
                  · simp at h1; subst h1; exact of_decide_eq_true HO.out)
                go_wp2_with fail
                refine (l4Leaf_any A1 xs.length c1 _ xs _ HX.out hln true HO.out).mono ?_
                rintro e w1 ⟨rfl, hw⟩
                subst hw
                go_wp2_with fail
                go_roundw
                case rel =>
                  (repeat apply Exists.intro)
                  refine ⟨?_, rfl⟩
                  exact ⟨k + 1, by go_num, by omega, HN, trivial⟩
                case measure => simp [intOf]; omega
              | false =>
                have HO := Lib.hid hq
                clear hq
                have HF : Hid (b = false) := Lib.hid (by
                  rw [← HB.out]
                  exact decide_eq_false fun h => of_decide_eq_false HO.out (h.2.2.2.1 xs (List.mem_of_getElem? HUX.out)))
                go_wp2_with fail
                refine (l4Leaf_any A1 xs.length c1 _ xs _ HX.out hln false HO.out).mono ?_
                rintro e w1 ⟨rfl, hw⟩
                subst hw
                go_wp2_with fail
                go_ret
                exact ⟨by rw [HF.out]; rfl, HW.out⟩
            · have hkm : k = m := by omega
              subst hkm
              have HE : Hid (b = decide (q = k)) := Lib.hid (by
                rw [← HB.out]
                refine decide_eq_decide.2 ⟨fun h => ?_, fun h => ?_⟩
                · rw [← HU4.out, h.2.2.2.2, HM.out]
                · refine ⟨HL.out, by rw [HM.out]; exact hm4, fun j z hj hne => ?_, fun l hl2 => ?_, by rw [HU4.out, HM.out]; exact h⟩
                  · rw [HM.out]
                    exact HA.out j z (by have := (List.getElem?_eq_some_iff.1 hj).1; have := HL.out; omega) hj hne
                  · have h2 := HQ.out
                    rw [List.take_of_length_le (by rw [HM.out]; exact Nat.le_refl _)] at h2
                    exact h2 l hl2)
              by_cases hqk : q = k
              · subst hqk
                go_wp2_with fail
                go_ret
                exact ⟨by rw [HE.out]; simp, HW.out⟩
              · have hb1 : ((q : Int) == (k : Int)) = false := by simp; omega
                have hb2 : decide (q = k) = false := decide_eq_false hqk
                rw [hb2] at HE
                go_wp2_with fail
                go_ret
                exact ⟨by rw [HE.out]; rfl, HW.out⟩
    · have HF : Hid (b = false) := Lib.hid (by
        rw [← HB.out]
        refine decide_eq_false fun h => hm4 ?_
        rw [← HM.out]; exact h.2.1)
      go_enter Try.func67, Try.ntmps67
      go_wp2_with fail
      go_ret
      exact ⟨by rw [HF.out]; rfl, below_more (Below.refl _ _) _⟩
  · have h5 : ((n : Int) != 4) = true := by simp; omega
    have HF : Hid (b = false) := Lib.hid (by
      rw [← HB.out]
      refine decide_eq_false fun h => h4 ?_
      rw [← HL.out]; exact h.1)
    go_enter Try.func67, Try.ntmps67
    go_wp2_with fail
    go_ret
    exact ⟨by rw [HF.out]; rfl, below_more (Below.refl _ _) _⟩
theorem specIsTable_any (A : Option Addr) (n c : Nat) (D : Option Addr) (m d : Nat) (t : Tab) (w : World) (hr : ReadsT w w.heap.size A n D m t) (hn : n ≤ 1048576) (hm : m ≤ 1048576) (hl : ∀ xs ∈ t.leaves, xs.length ≤ 1048576) (hnc : n ≤ c) (b : Bool) (hb : decide (OkT t) = b) :
    Calls Try.prog 44 #[.agg #[.slice A n c, .slice D m d]] w fun e w' => e = .returned (.bool b) ∧ Below w.heap.size w w' := by
  have hb0 := below_more (Below.refl w.heap.size w) (.cells #[.slice A n c, .slice D m d] 29)
  have HR := Lib.hid (hr.grow hb0)
  have HB0 := Lib.hid hb0
  have HB := Lib.hid hb
  clear hr hb0 hb
  go_enter Try.func44, Try.ntmps44
  go_wp2_with fail
  refine (l4Good_any A n c D m d t _ HR.out hn hm hl hnc b HB.out).mono ?_
  rintro e w1 ⟨rfl, hb⟩
  have HB1 := Lib.hid (below_then HB0.out hb)
  clear hb
  go_wp2_with fail
  go_ret
  exact ⟨rfl, HB1.out⟩
end Go.Proofs.Ytaamjnpknmimmab.L4
