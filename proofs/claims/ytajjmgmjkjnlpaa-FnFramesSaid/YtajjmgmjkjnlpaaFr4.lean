/- What spec.l2Guest, and TakeFrame and FreeGuest of spec and impl answer. -/
import Derived.Test.YtajjmgmjkjnlpaaFr3
namespace Go.Proofs.Ytajjmgmjkjnlpaa.Fra
open Go.RowKit Go.Proofs.Ytajjmgmjkjnlpaa.Mem Go.Proofs.Ytajjmgmjkjnlpaa.Own Go.Proofs.Ytajjmgmjkjnlpaa.L1
theorem l2Guest_any (A : Option Addr) (n c B : Nat) (zs : List Int) (o : Int) (w : World) (hr : Reads w B 1 A n (I zs)) (hn : n ≤ 1048576) (b : Bool) (hb : decide (GoodOw zs ∧ 1 ≤ o ∧ o ≤ 4) = b) :
    Calls Try.prog 63 #[.slice A n c, .int .i64 o] w fun e w' => e = .returned (.bool b) ∧ w = w' := by
  obtain ⟨g, hg⟩ : ∃ g, decide (GoodOw zs) = g := ⟨_, rfl⟩
  have HG := Lib.hid (l2Good_any A n c B zs w hr hn g hg)
  cases g with
  | false =>
    have HX : Hid (b = false) := Lib.hid (by rw [← hb]; exact decide_eq_false fun h => of_decide_eq_false hg h.1)
    clear hr hg hb
    go_enter Try.func63, Try.ntmps63
    go_wp2_with (go_at_call 56; refine HG.out.mono ?_; rintro e w1 ⟨rfl, rfl⟩)
    go_ret
    rw [HX.out]
    exact ⟨rfl, rfl⟩
  | true =>
    by_cases ho : 1 ≤ o ∧ o ≤ 4
    · have HX : Hid (b = true) := Lib.hid (by rw [← hb]; exact decide_eq_true ⟨of_decide_eq_true hg, ho⟩)
      clear hr hg hb
      go_enter Try.func63, Try.ntmps63
      go_wp2_with (first | (go_at_call 56; refine HG.out.mono ?_; rintro e w1 ⟨rfl, rfl⟩) | (go_at_call 70; refine (l1In_yes o 1 4 ho.1 ho.2 _).mono ?_; rintro e w1 ⟨rfl, rfl⟩))
      go_ret
      rw [HX.out]
      exact ⟨rfl, rfl⟩
    · have HX : Hid (b = false) := Lib.hid (by rw [← hb]; exact decide_eq_false fun h => ho h.2)
      have ho' : o < 1 ∨ 4 < o := by omega
      clear hr hg hb ho
      go_enter Try.func63, Try.ntmps63
      go_wp2_with (first | (go_at_call 56; refine HG.out.mono ?_; rintro e w1 ⟨rfl, rfl⟩) | (go_at_call 70; refine (l1In_no o 1 4 ho' _).mono ?_; rintro e w1 ⟨rfl, rfl⟩))
      go_ret
      rw [HX.out]
      exact ⟨rfl, rfl⟩
def TakeIs (zs : List Int) (o f : Int) (xs : List Int) (b : Bool) : Prop :=
  (∃ j : Nat, f = j ∧ GoodOw zs ∧ 1 ≤ o ∧ o ≤ 4 ∧ zs[j]? = some o ∧ xs = zs.set j 0 ∧ b = true) ∨ (¬ (GoodOw zs ∧ 1 ≤ o ∧ o ≤ 4 ∧ 0 ≤ f ∧ zs[f.toNat]? = some o) ∧ xs = [] ∧ b = false)
theorem takeIs_ex (zs : List Int) (o f : Int) : ∃ xs b, TakeIs zs o f xs b ∧ xs.length ≤ 16 := by
  by_cases h : GoodOw zs ∧ 1 ≤ o ∧ o ≤ 4 ∧ 0 ≤ f ∧ zs[f.toNat]? = some o
  · exact ⟨_, _, .inl ⟨f.toNat, by omega, h.1, h.2.1, h.2.2.1, h.2.2.2.2, rfl, rfl⟩, by have := h.1.2.2; simpa using this⟩
  · exact ⟨_, _, .inr ⟨h, rfl, rfl⟩, by simp⟩
theorem own_one (w : World) (f : Int) : (w.alloc (.cells #[.int .i64 f] 3)).ownsRow w.heap.size 3 1 (.slice (some ⟨w.heap.size, 0, none⟩) 1 1) 1 (I [f]) :=
  full_of_heap (heap_alloc_new w _) rfl (Nat.le_refl _) (by unfold maxLen; omega)
set_option maxHeartbeats 2000000 in
theorem specTakeFrame_any (A : Option Addr) (n c : Nat) (zs : List Int) (o f : Int) (xs : List Int) (b : Bool) (h : TakeIs zs o f xs b) (hn : n ≤ 1048576) (w : World) (hr : Reads w w.heap.size 1 A n (I zs)) (hc0 : A = none → n = 0 ∧ c = 0) :
    Calls Try.prog 40 #[.slice A n c, .int .i64 o, .int .i64 f] w (Row1 xs b w) := by
  have hl : zs.length = n := by have := hr.len; simpa [I] using this
  obtain ⟨g, hg⟩ : ∃ g, decide (GoodOw zs ∧ 1 ≤ o ∧ o ≤ 4) = g := ⟨_, rfl⟩
  have HG := Lib.hid (l2Guest_any A n c _ zs o w hr hn g hg)
  rcases h with ⟨j, rfl, h1, h2, h3, h4, rfl, rfl⟩ | ⟨h, rfl, rfl⟩
  · have hgt : g = true := by rw [← hg]; exact decide_eq_true ⟨h1, h2, h3⟩
    subst hgt
    have hj : j < n := by have := (List.getElem?_eq_some_iff.1 h4).1; omega
    have HO := Lib.hid (l1Own_any A n c _ zs w hr hc0 hn)
    obtain ⟨b1, o1, z, rfl, _, hu, hc⟩ := hr.int_at hj
    obtain rfl : z = o := by rw [h4] at hu; exact (Option.some.inj hu).symm
    have hil : (I zs).length = n := by rw [I_len]; exact hl
    have HX : Hid (I (zs.set j 0) = (I zs).set j (.int .i64 0) ∧ (zs.set j 0).length = n) := Lib.hid ⟨(I_set _ _ _).symm, by rw [List.length_set]; exact hl⟩
    obtain ⟨L, hL⟩ : ∃ L, L = I zs := ⟨_, rfl⟩
    rw [← hL] at HO HX hil
    clear hr hl hg h1 h4 hu hL
    go_enter Try.func40, Try.ntmps40
    go_wp2_with (first | (go_at_call 63; refine HG.out.mono ?_; rintro e w1 ⟨rfl, rfl⟩) | (go_at_call 70; refine (l1In_yes j 0 ((n : Int) - 1) (by omega) (by omega) _).mono ?_; rintro e w1 ⟨rfl, rfl⟩))
    refine HO.out.mono ?_
    rintro e w1 ⟨v, rfl, hown, hb⟩
    obtain ⟨A1, c1, rfl, _, _⟩ := own_form hown
    obtain ⟨g1, rfl⟩ := own_head hown (by omega)
    have hst := Lib.hid (hown.stored j (.int .i64 0)).1
    have hfz := hown.frozenAt j
    obtain ⟨z0, hz0⟩ : ∃ z, w1.cell? ⟨g1, j, none⟩ = some z := ⟨_, (hown.cellAt j (by omega)).trans (List.getElem?_eq_getElem (by omega))⟩
    have hgb := (hown.lt g1 rfl).1
    have hbel2 : Below w.heap.size w (w1.setCell ⟨g1, j, none⟩ (.int .i64 0)) := hb.setCell (p := ⟨g1, j, none⟩) hgb _
    clear hown hb
    go_wp2
    go_ret2
    refine row1_of ?_ hbel2
    rw [HX.out.2, HX.out.1]
    exact hst.out
  · have hx := row1_empty false w
    cases g with
    | false =>
      clear hr hl h hg hc0
      go_enter Try.func40, Try.ntmps40
      go_wp2_with (go_at_call 63; refine HG.out.mono ?_; rintro e w1 ⟨rfl, rfl⟩)
      go_ret2
      exact hx
    | true =>
      have hgo := of_decide_eq_true hg
      by_cases hf : 0 ≤ f ∧ f ≤ (n : Int) - 1
      · obtain ⟨j, rfl⟩ : ∃ j : Nat, f = j := ⟨f.toNat, by omega⟩
        have hj : j < n := by omega
        obtain ⟨b1, o1, z, rfl, _, hu, hc⟩ := hr.int_at hj
        have hzo : z ≠ o := by rintro rfl; exact h ⟨hgo.1, hgo.2.1, hgo.2.2, by omega, by simpa using hu⟩
        have t1 : (z == o) = false := by simpa using hzo
        have t2 : (z != o) = true := by simp only [bne, t1, Bool.not_false]
        have hf1 := hf.1
        have hf2 := hf.2
        clear hr hl h hg hc0 hu hgo hf hzo
        go_enter Try.func40, Try.ntmps40
        go_wp2_with (first | (go_at_call 63; refine HG.out.mono ?_; rintro e w1 ⟨rfl, rfl⟩) | (go_at_call 70; refine (l1In_yes j 0 ((n : Int) - 1) hf1 hf2 _).mono ?_; rintro e w1 ⟨rfl, rfl⟩))
        go_ret2
        exact hx
      · have hf' : f < 0 ∨ (n : Int) - 1 < f := by omega
        clear hr hl h hg hc0 hgo hf
        go_enter Try.func40, Try.ntmps40
        go_wp2_with (first | (go_at_call 63; refine HG.out.mono ?_; rintro e w1 ⟨rfl, rfl⟩) | (go_at_call 70; refine (l1In_no f 0 ((n : Int) - 1) hf' _).mono ?_; rintro e w1 ⟨rfl, rfl⟩))
        go_ret2
        exact hx
set_option maxHeartbeats 2000000 in
theorem implTakeFrame_any (A : Option Addr) (n c : Nat) (zs : List Int) (o f : Int) (xs : List Int) (b : Bool) (h : TakeIs zs o f xs b) (hn : n ≤ 1048576) (w : World) (hr : Reads w w.heap.size 1 A n (I zs)) :
    Calls Try.prog 41 #[.slice A n c, .int .i64 o, .int .i64 f] w (Row1 xs b w) := by
  have hl : zs.length = n := by have := hr.len; simpa [I] using this
  obtain ⟨g, hg⟩ : ∃ g, decide (GoodOw zs) = g := ⟨_, rfl⟩
  have HG := Lib.hid (implAreOwners_any A n c _ zs w hr hn g hg)
  rcases h with ⟨j, rfl, h1, h2, h3, h4, rfl, rfl⟩ | ⟨h, rfl, rfl⟩
  · have hgt : g = true := by rw [← hg]; exact decide_eq_true h1
    subst hgt
    have hj : j < n := by have := (List.getElem?_eq_some_iff.1 h4).1; omega
    have HI := Lib.hid (isGuest_any o true (decide_eq_true ⟨h2, h3⟩) w)
    have h1o := own_one w j
    have hba : Below w.heap.size w (w.alloc (.cells #[.int .i64 j] 3)) := (Below.refl w.heap.size w).alloc (Nat.le_refl _) _
    have HW := Lib.hid (withOwner_any A (some ⟨w.heap.size, 0, none⟩) n c 1 1 _ zs [(j : Int)] 0 (w.alloc (.cells #[.int .i64 j] 3)) ((hr.below hba).more hba.size) (Reads.of_own h1o) (Nat.le_refl _) hn (by omega) (by intro x hx; simp at hx; subst hx; omega))
    have HP : Hid (put zs 0 [(j : Int)] = zs.set j 0 ∧ (zs.set j 0).length = n) := Lib.hid ⟨by simp [put], by rw [List.length_set]; exact hl⟩
    have HB := Lib.hid hba
    obtain ⟨b1, o1, z, rfl, _, hu, hc⟩ := hr.int_at hj
    obtain rfl : z = o := by rw [h4] at hu; exact (Option.some.inj hu).symm
    clear hr hl hg h1 h4 hu h1o hba
    go_enter Try.func41, Try.ntmps41
    go_wp2_with (first | (go_at_call 33; refine HG.out.mono ?_; rintro e w1 ⟨rfl, rfl⟩) | (go_at_call 58; refine HI.out.mono ?_; rintro e w1 ⟨rfl, rfl⟩))
    refine HW.out.mono ?_
    rintro e w1 ⟨g1, rfl, hown, hb⟩
    have hb2 := HB.out.trans (hb.mono HB.out.size)
    have hown2 := own_mono hown HB.out.size
    rw [HP.out.1] at hown2
    clear hown hb
    go_wp2
    go_ret2
    refine row1_of ?_ hb2
    rw [HP.out.2]
    exact hown2
  · have hx := row1_nil false w
    cases g with
    | false =>
      clear hr hl h hg
      go_enter Try.func41, Try.ntmps41
      go_wp2_with (go_at_call 33; refine HG.out.mono ?_; rintro e w1 ⟨rfl, rfl⟩)
      go_ret2
      exact hx
    | true =>
      have hgo := of_decide_eq_true hg
      by_cases ho : 1 ≤ o ∧ o ≤ 4
      · have HI := Lib.hid (isGuest_any o true (decide_eq_true ho) w)
        by_cases hf0 : 0 ≤ f
        · by_cases hf1 : f < n
          · obtain ⟨j, rfl⟩ : ∃ j : Nat, f = j := ⟨f.toNat, by omega⟩
            have hj : j < n := by omega
            obtain ⟨b1, o1, z, rfl, _, hu, hc⟩ := hr.int_at hj
            have hzo : z ≠ o := by rintro rfl; exact h ⟨hgo, ho.1, ho.2, by omega, by simpa using hu⟩
            have t1 : (z == o) = false := by simpa using hzo
            have t2 : (z != o) = true := by simp only [bne, t1, Bool.not_false]
            clear hr hl h hg hu hgo hzo ho
            go_enter Try.func41, Try.ntmps41
            go_wp2_with (first | (go_at_call 33; refine HG.out.mono ?_; rintro e w1 ⟨rfl, rfl⟩) | (go_at_call 58; refine HI.out.mono ?_; rintro e w1 ⟨rfl, rfl⟩))
            go_ret2
            exact hx
          · have hf2 : (n : Int) ≤ f := by omega
            clear hr hl h hg hgo ho
            go_enter Try.func41, Try.ntmps41
            go_wp2_with (first | (go_at_call 33; refine HG.out.mono ?_; rintro e w1 ⟨rfl, rfl⟩) | (go_at_call 58; refine HI.out.mono ?_; rintro e w1 ⟨rfl, rfl⟩))
            go_ret2
            exact hx
        · clear hr hl h hg hgo ho
          go_enter Try.func41, Try.ntmps41
          go_wp2_with (first | (go_at_call 33; refine HG.out.mono ?_; rintro e w1 ⟨rfl, rfl⟩) | (go_at_call 58; refine HI.out.mono ?_; rintro e w1 ⟨rfl, rfl⟩))
          go_ret2
          exact hx
      · have HI := Lib.hid (isGuest_any o false (decide_eq_false ho) w)
        clear hr hl h hg hgo ho
        go_enter Try.func41, Try.ntmps41
        go_wp2_with (first | (go_at_call 33; refine HG.out.mono ?_; rintro e w1 ⟨rfl, rfl⟩) | (go_at_call 58; refine HI.out.mono ?_; rintro e w1 ⟨rfl, rfl⟩))
        go_ret2
        exact hx
end Go.Proofs.Ytajjmgmjkjnlpaa.Fra
