/- What impl.IsTable answers. -/
import Derived.Test.YtaamjnpknmimmabFun
namespace Go.Proofs.Ytaamjnpknmimmab.L4
open Go Go.RowKit Go.Proofs.Ytaamjnpknmimmab.Mem Go.Proofs.Ytaamjnpknmimmab.Own
theorem count_take2 {ds : List Int} {k : Nat} {d x : Int} (h : ds[k]? = some d) : (ds.take (k + 1)).count x = (ds.take k).count x + if d = x then 1 else 0 := by
  rw [List.take_add_one, h, List.count_append]
  by_cases e : d = x
  · subst e; simp
  · simp [e, List.count_cons_of_ne]
set_option maxHeartbeats 1000000 in
theorem countOf_any (A : Option Addr) (n c B : Nat) (zs : List Int) (x : Int) (w : World) (hr : Reads w B 1 A n (I zs)) (hn : n ≤ 1048576) :
    Calls Try.prog 93 #[.slice A n c, .int .i64 x] w fun e w' => e = .returned (.int .i64 (zs.count x : Nat)) ∧ w = w' := by
  have HL : Hid (zs.length = n) := Lib.hid (by have := hr.len; simpa [I] using this)
  go_enter Try.func93, Try.ntmps93
  go_wp2
  go_loopw [5, 10] (fun m i wr => ∃ (k q : Nat), i = .int .i64 k ∧ m = .int .i64 q ∧ k ≤ n ∧ q ≤ k ∧ Hid ((zs.take k).count x = q) ∧ wr = w) (fun _ i _ => n - (intOf i).toNat)
  case atStart => exact ⟨0, 0, rfl, rfl, Nat.zero_le _, Nat.le_refl _, Lib.hid (by simp), rfl⟩
  case round =>
    obtain ⟨k, q, rfl, rfl, hk, hq, HC, rfl⟩ := hrel
    by_cases hlt : k < n
    · obtain ⟨b1, o1, z, rfl, _, hu, hc⟩ := hr.int_at hlt
      have HT := Lib.hid (count_take2 (x := x) hu)
      clear hu
      by_cases hz : z = x
      · have hzb : (z == x) = true := by simpa using hz
        have HZ := Lib.hid hz
        clear hz
        go_wp2_with fail
        go_roundw
        case rel => exact ⟨k + 1, q + 1, by go_num, by go_num, by omega, by omega, Lib.hid (by rw [HT.out, HC.out, if_pos HZ.out]), trivial⟩
        case measure => simp [intOf]; omega
      · have hzb : (z == x) = false := by simpa using hz
        have HZ := Lib.hid hz
        clear hz
        go_wp2_with fail
        go_roundw
        case rel => exact ⟨k + 1, q, by go_num, rfl, by omega, by omega, Lib.hid (by rw [HT.out, HC.out, if_neg HZ.out]; rfl), trivial⟩
        case measure => simp [intOf]; omega
    · have hkn : k = n := by omega
      subst hkn
      have HE : Hid (zs.count x = q) := Lib.hid (by have h := HC.out; rwa [List.take_of_length_le (by rw [HL.out]; exact Nat.le_refl _)] at h)
      go_wp2_with fail
      go_ret
      exact ⟨by rw [HE.out]; rfl, rfl⟩
theorem okL_iff (xs : List Ent) : OkL xs ↔ xs.length = 4 ∧ (xs.any fun x => decide (x.f ≠ -1)) = true ∧ (xs.any fun x => decide (Wrong x)) = false := by
  unfold OkL
  constructor
  · rintro ⟨h1, ⟨x, h2, h3⟩, h4⟩
    refine ⟨h1, List.any_eq_true.2 ⟨x, h2, decide_eq_true h3⟩, ?_⟩
    rw [List.any_eq_false]
    intro x hx
    simpa using h4 x hx
  · rintro ⟨h1, h2, h3⟩
    obtain ⟨x, hx, h4⟩ := List.any_eq_true.1 h2
    refine ⟨h1, ⟨x, hx, of_decide_eq_true h4⟩, fun x hx => ?_⟩
    have := List.any_eq_false.1 h3 x hx
    simpa using this
set_option maxHeartbeats 1000000 in
theorem isLeaf_any (A : Option Addr) (n c : Nat) (xs : List Ent) (w : World) (hr : Reads w w.heap.size 2 A n (FL xs)) (hn : n ≤ 1048576) (b : Bool) (hb : decide (OkL xs) = b) :
    Calls Try.prog 94 #[.slice A n c] w fun e w' => e = .returned (.bool b) ∧ Below w.heap.size w w' := by
  have HB := Lib.hid hb
  have HL : Hid (xs.length = n) := Lib.hid (reads_len hr)
  have HR := Lib.hid hr
  clear hb hr
  obtain ⟨q1, hq1⟩ : ∃ q, (xs.any fun x => decide (x.f ≠ -1)) = q := ⟨_, rfl⟩
  obtain ⟨q2, hq2⟩ : ∃ q, (xs.any fun x => decide (Wrong x)) = q := ⟨_, rfl⟩
  have HF : Hid (b = (decide (n = 4) && q1 && !q2)) := Lib.hid (by
    rw [← HB.out, Bool.eq_iff_iff, decide_eq_true_iff, okL_iff, HL.out, hq1, hq2]
    cases q1 <;> cases q2 <;> simp)
  have HQ1 : Hid ((!xs.any fun x => decide (x.f ≠ -1)) = !q1) := Lib.hid (by rw [hq1])
  have HQ2 := Lib.hid hq2
  clear hq1 hq2
  by_cases h4 : n = 4
  · subst h4
    cases q1 with
    | true =>
      go_enter Try.func94, Try.ntmps94
      go_wp2_with fail
      refine (isEmpty_any A 4 c xs _ HR.out (by omega) false HQ1.out).mono ?_
      rintro e w1 ⟨rfl, hb⟩
      have HB1 := Lib.hid hb
      clear hb
      go_wp2_with fail
      refine (containsFunc_any A 4 c _ #[] _ wrong_enters xs _ ((HR.out.below HB1.out).more HB1.out.size) (by omega) (wrong_tells _)).mono ?_
      rintro e w2 ⟨rfl, hb⟩
      have HB2 := Lib.hid (below_then HB1.out hb)
      clear hb
      rw [HQ2.out]
      go_wp2_with fail
      go_ret
      exact ⟨by rw [HF.out]; rfl, HB2.out⟩
    | false =>
      go_enter Try.func94, Try.ntmps94
      go_wp2_with fail
      refine (isEmpty_any A 4 c xs _ HR.out (by omega) true HQ1.out).mono ?_
      rintro e w1 ⟨rfl, hb⟩
      have HB1 := Lib.hid hb
      clear hb
      go_wp2_with fail
      go_ret
      exact ⟨by rw [HF.out]; rfl, HB1.out⟩
  · have h5 : ((n : Int) == 4) = false := by simp; omega
    have h6 : decide (n = 4) = false := decide_eq_false h4
    rw [h6] at HF
    go_enter Try.func94, Try.ntmps94
    go_wp2_with fail
    go_ret
    exact ⟨by rw [HF.out]; rfl, Below.refl _ _⟩
theorem okT_iff (t : Tab) : OkT t ↔ t.dirs.length = 4 ∧ (∀ d ∈ t.dirs, OkD d t.leaves.length) ∧ ∀ i, i < t.leaves.length → t.dirs.count (i : Int) = 1 ∧ OkL (t.leaves.getD i ([] : List Ent)) := Iff.rfl
set_option maxRecDepth 100000 in
set_option maxHeartbeats 2000000 in
theorem implIsTable_any (A : Option Addr) (n c : Nat) (D : Option Addr) (m d : Nat) (t : Tab) (w : World) (hr : ReadsT w w.heap.size A n D m t) (hn : n ≤ 1048576) (hm : m ≤ 1048576) (hl : ∀ xs ∈ t.leaves, xs.length ≤ 1048576) (b : Bool) (hb : decide (OkT t) = b) :
    Calls Try.prog 43 #[.agg #[.slice A n c, .slice D m d]] w fun e w' => e = .returned (.bool b) ∧ Below w.heap.size w w' := by
  have HB := Lib.hid hb
  have HL : Hid (t.dirs.length = n) := Lib.hid hr.dlen
  have HM : Hid (t.leaves.length = m) := Lib.hid hr.leaves.len
  clear hb
  by_cases h4 : n = 4
  · subst h4
    obtain ⟨wb, hwb⟩ : ∃ wb, w.alloc (.cells #[.slice A 4 c, .slice D m d] 29) = wb := ⟨_, rfl⟩
    have hb0 : Below w.heap.size w wb := by rw [← hwb]; exact below_more (Below.refl _ _) _
    have hB0 : Blk wb w.heap.size 29 #[.slice A 4 c, .slice D m d] := by rw [← hwb]; exact Blk.new _ _ _
    have k0 := hB0.cell 0 _ rfl
    have k1 := hB0.cell 1 _ rfl
    have HK := Lib.hid hB0
    have HR := Lib.hid (hr.grow hb0)
    have HB0 := Lib.hid hb0
    have HWB := Lib.hid hwb
    clear hr hb0 hB0 hwb
    go_enter Try.func43, Try.ntmps43
    go_wp2
    rw [HWB.out]
    clear HWB
    go_loopw [14] (fun i wr => ∃ (k : Nat), i = .int .i64 k ∧ k ≤ 4 ∧ Hid (∀ z ∈ t.dirs.take k, OkD z m) ∧ wr = wb) (fun i _ => 4 - (intOf i).toNat)
    case atStart => exact ⟨0, rfl, Nat.zero_le _, Lib.hid (by simp), rfl⟩
    case round =>
      obtain ⟨k, rfl, hk, HA, rfl⟩ := hrel
      by_cases hlt : k < 4
      · obtain ⟨b1, o1, z, rfl, _, hu, hc⟩ := HR.out.dirs.int_at hlt
        have HU := Lib.hid hu
        clear hu
        by_cases hz : z = -1
        · have hzb : (z != -1) = false := by simpa using hz
          have HT : Hid (∀ y ∈ t.dirs.take (k + 1), OkD y m) := Lib.hid (by
            intro y hy
            rw [List.take_add_one, HU.out] at hy
            rcases List.mem_append.1 hy with h1 | h1
            · exact HA.out y h1
            · simp at h1; subst h1; exact .inl hz)
          clear hz
          go_wp2_with fail
          go_roundw
          case rel => exact ⟨k + 1, by go_num, by omega, HT, trivial⟩
          case measure => simp [intOf]; omega
        · have hzb : (z != -1) = true := by simpa using hz
          by_cases hin : 0 ≤ z ∧ z < m
          · have HT : Hid (∀ y ∈ t.dirs.take (k + 1), OkD y m) := Lib.hid (by
              intro y hy
              rw [List.take_add_one, HU.out] at hy
              rcases List.mem_append.1 hy with h1 | h1
              · exact HA.out y h1
              · simp at h1; subst h1; exact .inr hin)
            go_wp2_with fail
            refine (isBelow_yes z m hin.1 hin.2 _).mono ?_
            rintro e w1 ⟨rfl, hw⟩
            subst hw
            go_wp2_with fail
            go_roundw
            case rel => exact ⟨k + 1, by go_num, by omega, HT, trivial⟩
            case measure => simp [intOf]; omega
          · have HF : Hid (b = false) := Lib.hid (by
              rw [← HB.out]
              refine decide_eq_false fun h => ?_
              rcases h.2.1 z (List.mem_of_getElem? HU.out) with h1 | h1
              · exact hz h1
              · rw [HM.out] at h1; exact hin h1)
            go_wp2_with fail
            refine (isBelow_no z m (by omega) _).mono ?_
            rintro e w1 ⟨rfl, hw⟩
            subst hw
            go_wp2_with fail
            go_ret
            exact ⟨by rw [HF.out]; rfl, HB0.out⟩
      · have hk4 : k = 4 := by omega
        subst hk4
        have HD : Hid (∀ z ∈ t.dirs, OkD z m) := Lib.hid (by have h := HA.out; rwa [List.take_of_length_le (by rw [HL.out]; exact Nat.le_refl _)] at h)
        clear HA
        go_wp2
        go_loopw [32] (fun i wz => ∃ (k : Nat), i = .int .i64 k ∧ k ≤ m ∧ Hid (∀ i, i < k → t.dirs.count (i : Int) = 1 ∧ OkL (t.leaves.getD i ([] : List Ent))) ∧ Below wr.heap.size wr wz) (fun i _ => m - (intOf i).toNat)
        case atStart => exact ⟨0, rfl, Nat.zero_le _, Lib.hid (by intro i hi; omega), Below.refl _ _⟩
        case round =>
          clear k0 k1
          obtain ⟨k, rfl, hk, HA, hbel⟩ := hrel
          have HW := Lib.hid (below_then HB0.out hbel)
          have HR2 := Lib.hid (HR.out.grow hbel)
          have k0 := (Blk.kept hbel HK.out).cell 0 _ rfl
          have k1 := (Blk.kept hbel HK.out).cell 1 _ rfl
          have HBL := Lib.hid hbel
          clear hbel
          by_cases hlt : k < m
          · obtain ⟨b1, o1, A1, n1, c1, xs, rfl, _, hu, hc, hx, rfl, _⟩ := HR2.out.leaves.at_ hlt
            have hln : xs.length ≤ 1048576 := hl xs (List.mem_of_getElem? hu)
            have HX := Lib.hid hx
            have HG : Hid (t.leaves.getD k ([] : List Ent) = xs) := Lib.hid (by rw [List.getD, hu]; rfl)
            clear hx hu
            go_wp2_with fail
            refine (countOf_any A 4 c _ t.dirs k _ HR2.out.dirs (by omega)).mono ?_
            rintro e w1 ⟨rfl, hw⟩
            subst hw
            by_cases hcnt : t.dirs.count (k : Int) = 1
            · rw [hcnt]
              have HC := Lib.hid hcnt
              clear hcnt
              cases hq : decide (OkL xs) with
              | true =>
                have HQ := Lib.hid hq
                clear hq
                go_wp2_with fail
                refine (isLeaf_any A1 xs.length c1 xs _ HX.out hln true HQ.out).mono ?_
                rintro e w2 ⟨rfl, hb⟩
                have HB2 := Lib.hid (below_then HBL.out hb)
                clear hb
                go_wp2_with fail
                go_roundw
                case rel =>
                  have HN : Hid (∀ i, i < k + 1 → t.dirs.count (i : Int) = 1 ∧ OkL (t.leaves.getD i ([] : List Ent))) := Lib.hid fun i hi => by
                    by_cases e : i = k
                    · subst e; rw [HG.out]; exact ⟨HC.out, of_decide_eq_true HQ.out⟩
                    · exact HA.out i (by omega)
                  (repeat apply Exists.intro)
                  refine ⟨?_, rfl⟩
                  exact ⟨k + 1, by go_num, by omega, HN, HB2.out⟩
                case measure => simp [intOf]; omega
              | false =>
                have HQ := Lib.hid hq
                clear hq
                have HF : Hid (b = false) := Lib.hid (by
                  rw [← HB.out]
                  refine decide_eq_false fun h => ?_
                  have h2 := (h.2.2 k (by rw [HM.out]; exact hlt)).2
                  rw [HG.out] at h2
                  exact of_decide_eq_false HQ.out h2)
                go_wp2_with fail
                refine (isLeaf_any A1 xs.length c1 xs _ HX.out hln false HQ.out).mono ?_
                rintro e w2 ⟨rfl, hb⟩
                have HB2 := Lib.hid (below_then HW.out hb)
                clear hb
                go_wp2_with fail
                go_ret
                exact ⟨by rw [HF.out]; rfl, HB2.out⟩
            · have HF : Hid (b = false) := Lib.hid (by
                rw [← HB.out]
                refine decide_eq_false fun h => hcnt ?_
                exact (h.2.2 k (by rw [HM.out]; exact hlt)).1)
              obtain ⟨q, hq⟩ : ∃ q, t.dirs.count (k : Int) = q := ⟨_, rfl⟩
              rw [hq] at hcnt ⊢
              clear hq
              have hqb : ((q : Int) != 1) = true := by simp; omega
              go_wp2_with fail
              go_ret
              exact ⟨by rw [HF.out]; rfl, HW.out⟩
          · have hkm : k = m := by omega
            subst hkm
            have HF : Hid (b = true) := Lib.hid (by
              rw [← HB.out]
              refine decide_eq_true ⟨HL.out, ?_, ?_⟩
              · rw [HM.out]; exact HD.out
              · rw [HM.out]; exact HA.out)
            go_wp2
            go_ret
            exact ⟨by rw [HF.out]; rfl, HW.out⟩
  · have h5 : ((n : Int) != 4) = true := by simp; omega
    have HF : Hid (b = false) := Lib.hid (by
      rw [← HB.out]
      refine decide_eq_false fun h => h4 ?_
      rw [← HL.out]; exact h.1)
    go_enter Try.func43, Try.ntmps43
    go_wp2_with fail
    go_ret
    exact ⟨by rw [HF.out]; rfl, below_more (Below.refl _ _) _⟩
end Go.Proofs.Ytaamjnpknmimmab.L4
