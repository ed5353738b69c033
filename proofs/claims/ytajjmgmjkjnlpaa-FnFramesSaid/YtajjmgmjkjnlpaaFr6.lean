/- What GrantFrames of spec and impl answers. -/
import Derived.Test.YtajjmgmjkjnlpaaFr5
namespace Go.Proofs.Ytajjmgmjkjnlpaa.Fra
open Go.RowKit Go.Proofs.Ytajjmgmjkjnlpaa.Mem Go.Proofs.Ytajjmgmjkjnlpaa.Own Go.Proofs.Ytajjmgmjkjnlpaa.L1
def GrantIs (zs : List Int) (o k : Int) (xs ys : List Int) (b : Bool) : Prop :=
  (∃ m : Nat, k = m ∧ GoodOw zs ∧ 1 ≤ o ∧ o ≤ 4 ∧ m ≤ (fr zs 0 zs.length).length ∧ ys = (fr zs 0 zs.length).take m ∧ xs = put zs o ys ∧ b = true) ∨ (¬ (GoodOw zs ∧ 1 ≤ o ∧ o ≤ 4 ∧ 0 ≤ k ∧ k ≤ (fr zs 0 zs.length).length) ∧ xs = [] ∧ ys = [] ∧ b = false)
theorem grantIs_ex (zs : List Int) (o k : Int) : ∃ xs ys b, GrantIs zs o k xs ys b ∧ xs.length ≤ 16 ∧ ys.length ≤ 16 := by
  by_cases h : GoodOw zs ∧ 1 ≤ o ∧ o ≤ 4 ∧ 0 ≤ k ∧ k ≤ (fr zs 0 zs.length).length
  · refine ⟨_, _, _, .inl ⟨k.toNat, by omega, h.1, h.2.1, h.2.2.1, by omega, rfl, rfl, rfl⟩, by rw [put_len]; exact h.1.2.2, ?_⟩
    have := fr_len zs 0 zs.length
    have := h.1.2.2
    rw [List.length_take]
    omega
  · exact ⟨_, _, _, .inr ⟨h, rfl, rfl, rfl⟩, by simp, by simp⟩
theorem grant_take {zs : List Int} {n m : Nat} (hm : m ≤ (fr zs 0 n).length) : ((fr zs 0 n).take m).length = m ∧ (∀ f ∈ (fr zs 0 n).take m, 0 ≤ f ∧ f < n) ∧ I ((fr zs 0 n).take m) = (I (fr zs 0 n)).take m :=
  ⟨by rw [List.length_take]; omega, fun f hf => fr_bd f (List.mem_of_mem_take hf), by simp [I, List.map_take]⟩
theorem row3_from {xs ys : List Int} {b : Bool} {w w1 w' : World} {e : Ending} (h : Row3 xs ys b w1 e w') (hb : Below w.heap.size w w1) : Row3 xs ys b w e w' := by
  obtain ⟨A, c, A', c', rfl, h1, h2, h3, h4⟩ := h
  exact ⟨A, c, A', c', rfl, own_mono h1 hb.size, own_mono h2 hb.size, h3, hb.trans (h4.mono hb.size)⟩
set_option maxHeartbeats 4000000 in
theorem specGrantFrames_any (A : Option Addr) (n c : Nat) (zs : List Int) (o k : Int) (xs ys : List Int) (b : Bool) (h : GrantIs zs o k xs ys b) (hn : n ≤ 1048576) (w : World) (hr : Reads w w.heap.size 1 A n (I zs)) (hc0 : A = none → n = 0 ∧ c = 0) :
    Calls Try.prog 38 #[.slice A n c, .int .i64 o, .int .i64 k] w (Row3 xs ys b w) := by
  have hl : zs.length = n := by have := hr.len; simpa [I] using this
  obtain ⟨g, hg⟩ : ∃ g, decide (GoodOw zs ∧ 1 ≤ o ∧ o ≤ 4) = g := ⟨_, rfl⟩
  have HG := Lib.hid (l2Guest_any A n c _ zs o w hr hn g hg)
  have HF := Lib.hid fun (w' : World) (hb : Below w.heap.size w w') => l2Of_any A n c w.heap.size zs 0 w' (hr.below hb) hb.size hn
  unfold GrantIs at h
  rw [hl] at h
  have hfl := fr_len zs 0 n
  rcases h with ⟨m, rfl, h1, h2, h3, h4, rfl, rfl, rfl⟩ | ⟨h, rfl, rfl, rfl⟩
  · have hgt : g = true := by rw [← hg]; exact decide_eq_true ⟨h1, h2, h3⟩
    subst hgt
    obtain ⟨gt1, gt2, gt3⟩ := grant_take h4
    have HO := Lib.hid fun (w' : World) (hb : Below w.heap.size w w') => l1Own_any A n c w'.heap.size zs w' ((hr.below hb).more hb.size) hc0 hn
    have HPL : Hid ((put zs o ((fr zs 0 n).take m)).length = n) := Lib.hid (by rw [put_len]; exact hl)
    obtain ⟨F, hF⟩ : ∃ F, F = fr zs 0 n := ⟨_, rfl⟩
    rw [← hF] at HF HPL gt1 gt2 gt3 hfl h4
    rw [← hF]
    obtain ⟨G, hGG⟩ : ∃ G, G = F.take m := ⟨_, rfl⟩
    rw [← hGG] at HPL gt1 gt2 gt3
    rw [← hGG]
    have GT3 := Lib.hid gt3
    have HO2 := Lib.hid fun (A' : Option Addr) (c' : Nat) (w' : World) (hr' : Reads w' w'.heap.size 1 A' m (I G)) (hc' : A' = none → m = 0 ∧ c' = 0) => l1Own_any A' m c' w'.heap.size G w' hr' hc' (by omega)
    clear hr hl hg h1 hF gt3
    go_enter Try.func38, Try.ntmps38
    go_wp2_with (go_at_call 63; refine HG.out.mono ?_; rintro e w1 ⟨rfl, rfl⟩)
    refine (HF.out _ (Below.refl _ _)).mono ?_
    rintro e w1 ⟨v, rfl, hown, hb⟩
    obtain ⟨A1, c1, rfl, _, _⟩ := own_form hown
    have HB1 := Lib.hid hb
    clear HG hown hb
    go_wp2_with (go_at_call 70; refine (l1In_yes m 0 F.length (by omega) (by omega) _).mono ?_; rintro e w1 ⟨rfl, rfl⟩)
    refine (HF.out w1 HB1.out).mono ?_
    rintro e w2 ⟨v, rfl, hown, hb⟩
    obtain ⟨A2, c2, rfl, hc2, _⟩ := own_form hown
    have HB2 := Lib.hid (HB1.out.trans (hb.mono HB1.out.size))
    have HK2 := Lib.hid (own_take (own_mono hown HB1.out.size) h4)
    have hA2 : ∀ a, A2 = some a → a.add 0 = a := fun a _ => by simp [Addr.add]
    clear HF hown hb HB1
    go_wp2_with fail
    refine (HO.out w2 HB2.out).mono ?_
    rintro e w3 ⟨v3, rfl, hown3, hb3⟩
    obtain ⟨A3, c3, rfl, _, _⟩ := own_form hown3
    have hk2 := HK2.out
    rw [← GT3.out] at hk2
    have hk3 := own_below hk2 hb3
    have ha := Lib.hid (apart_new hk2 hown3)
    have hown3' := own_mono hown3 HB2.out.size
    have hB3 := HB2.out.trans (hb3.mono HB2.out.size)
    have hf := Lib.hid (Reads.of_own hk3)
    have hcap := Lib.hid (own_cap hk3)
    clear HO HK2 hk2 hown3 hb3 hk3 HB2 hA2
    go_wp2_with fail
    go_loopw [11] (fun i wr => ∃ (q : Nat) (L : List Value), i = .int .i64 q ∧ q ≤ m ∧ Hid (L = I (put zs o (G.take q))) ∧ wr.ownsRow w.heap.size 3 1 (.slice A3 n c3) n L ∧ Hid (Reads wr w3.heap.size 1 A2 m (I G)) ∧ Below w.heap.size w wr ∧ w3.heap.size ≤ wr.heap.size) (fun i _ => m - (intOf i).toNat)
    case atStart => exact ⟨0, _, rfl, Nat.zero_le _, Lib.hid (by simp [put]), hown3', hf, hB3, Nat.le_refl _⟩
    case round =>
      clear hown3' hf hB3
      obtain ⟨q, L, rfl, hq, HQ, hown, HR, hbel, hz2⟩ := hrel
      by_cases hlt : q < m
      · obtain ⟨b1, o1, f, hA2, _, hu, hc⟩ := HR.out.int_at hlt
        obtain ⟨j, rfl⟩ : ∃ j : Nat, f = j := ⟨f.toNat, by have := (gt2 f (List.mem_of_getElem? hu)).1; omega⟩
        have hj : j < n := by have := (gt2 _ (List.mem_of_getElem? hu)).2; omega
        obtain ⟨g1, hA1⟩ := own_head hown (by omega)
        subst hA1
        have hne : b1 ≠ g1 := by
          intro e
          subst hA2
          exact ha.out b1 rfl (by simp [Value.ownBlock, e])
        subst hA2
        have HQ2 : Hid (L.set j (.int .i64 o) = I (put zs o (G.take (q + 1)))) := Lib.hid (by rw [put_snoc zs o G q _ hu, HQ.out, I_set]; rfl)
        have hst := Lib.hid (hown.stored j (.int .i64 o)).1
        have hfz := hown.frozenAt j
        have hLl : L.length = n := by have := hown.1; omega
        obtain ⟨z, hz⟩ : ∃ z, wr.cell? ⟨g1, j, none⟩ = some z := ⟨_, (hown.cellAt j (by omega)).trans (List.getElem?_eq_getElem (by omega))⟩
        have hgb := (hown.lt g1 rfl).1
        have hbel2 : Below w.heap.size w (wr.setCell ⟨g1, j, none⟩ (.int .i64 o)) := hbel.setCell (p := ⟨g1, j, none⟩) hgb _
        have HR2 : Hid (Reads (wr.setCell ⟨g1, j, none⟩ (.int .i64 o)) w3.heap.size 1 (some ⟨b1, o1, none⟩) m (I G)) := Lib.hid (by
          refine ⟨HR.out.1, fun hp => ?_⟩
          obtain ⟨b', off', e, hb', hcc⟩ := HR.out.2 hp
          obtain ⟨rfl, rfl⟩ : b1 = b' ∧ o1 = off' := by simpa using e
          exact ⟨b1, o1, rfl, hb', fun i u hi => by rw [World.cell?_setCell_far _ _ _ _ (by exact hne.symm)]; exact hcc i u hi⟩)
        have hz3 : w3.heap.size ≤ (wr.setCell ⟨g1, j, none⟩ (.int .i64 o)).heap.size := by simpa [World.setCell] using hz2
        clear HR hu hown HQ hbel
        go_wp2
        go_roundw
        case rel => exact ⟨q + 1, _, by go_num, by omega, HQ2, hst.out, HR2, hbel2, hz3⟩
        case measure => simp [intOf]; omega
      · have hqm : q = m := by omega
        have HQ2 : Hid (L = I (put zs o G)) := Lib.hid (by rw [HQ.out, List.take_of_length_le (by omega)])
        have hown' := Lib.hid hown
        have HBR := Lib.hid hbel
        clear hqm HQ hown hbel ha
        go_wp2_with fail
        refine (HO2.out A2 c2 _ (HR.out.more hz2) hcap.out).mono ?_
        rintro e w4 ⟨v4, rfl, hown4, hb4⟩
        have hx3 := own_below hown'.out hb4
        have ha4 := apart_new hown'.out hown4
        have hx4 := own_mono hown4 HBR.out.size
        have hb5 := HBR.out.trans (hb4.mono HBR.out.size)
        clear hown' hown4 hb4 HBR HR
        go_wp2_with fail
        go_ret3
        refine row3_of ?_ ?_ ha4 hb5
        · rw [HPL.out, ← HQ2.out]; exact hx3
        · rw [gt1]; exact hx4
  · have hx := row3_empty false w
    cases g with
    | false =>
      clear hr hl h hg hc0 HF
      go_enter Try.func38, Try.ntmps38
      go_wp2_with (go_at_call 63; refine HG.out.mono ?_; rintro e w1 ⟨rfl, rfl⟩)
      go_ret3
      exact hx
    | true =>
      have hgo := of_decide_eq_true hg
      obtain ⟨F, hF⟩ : ∃ F, F = fr zs 0 n := ⟨_, rfl⟩
      rw [← hF] at HF h hfl
      have hk : k < 0 ∨ (F.length : Int) < k := by
        have : ¬ (0 ≤ k ∧ k ≤ (F.length : Int)) := fun hh => h ⟨hgo.1, hgo.2.1, hgo.2.2, hh⟩
        omega
      clear hr hl h hg hc0 hgo hF hx
      go_enter Try.func38, Try.ntmps38
      go_wp2_with (go_at_call 63; refine HG.out.mono ?_; rintro e w1 ⟨rfl, rfl⟩)
      refine (HF.out _ (Below.refl _ _)).mono ?_
      rintro e w1 ⟨v, rfl, hown, hb⟩
      obtain ⟨A1, c1, rfl, _, _⟩ := own_form hown
      have HB1 := Lib.hid hb
      have HX := Lib.hid (row3_empty false w1)
      clear HG hown hb HF
      go_wp2_with (go_at_call 70; refine (l1In_no k 0 F.length hk _).mono ?_; rintro e w1 ⟨rfl, rfl⟩)
      go_ret3
      exact row3_from HX.out HB1.out
set_option maxHeartbeats 4000000 in
theorem implGrantFrames_any (A : Option Addr) (n c : Nat) (zs : List Int) (o k : Int) (xs ys : List Int) (b : Bool) (h : GrantIs zs o k xs ys b) (hn : n ≤ 1048576) (w : World) (hr : Reads w w.heap.size 1 A n (I zs)) :
    Calls Try.prog 39 #[.slice A n c, .int .i64 o, .int .i64 k] w (Row3 xs ys b w) := by
  have hl : zs.length = n := by have := hr.len; simpa [I] using this
  obtain ⟨g, hg⟩ : ∃ g, decide (GoodOw zs) = g := ⟨_, rfl⟩
  have HG := Lib.hid (implAreOwners_any A n c _ zs w hr hn g hg)
  have HF := Lib.hid (framesWith_any A n c _ zs 0 w hr (Nat.le_refl _) hn)
  unfold GrantIs at h
  rw [hl] at h
  have hfl := fr_len zs 0 n
  rcases h with ⟨m, rfl, h1, h2, h3, h4, rfl, rfl, rfl⟩ | ⟨h, rfl, rfl, rfl⟩
  · have hgt : g = true := by rw [← hg]; exact decide_eq_true h1
    subst hgt
    have HI := Lib.hid (isGuest_any o true (decide_eq_true ⟨h2, h3⟩) w)
    obtain ⟨gt1, gt2, gt3⟩ := grant_take h4
    have HPL : Hid ((put zs o ((fr zs 0 n).take m)).length = n) := Lib.hid (by rw [put_len]; exact hl)
    obtain ⟨F, hF⟩ : ∃ F, F = fr zs 0 n := ⟨_, rfl⟩
    rw [← hF] at HF HPL gt1 gt2 gt3 hfl h4
    rw [← hF]
    obtain ⟨G, hGG⟩ : ∃ G, G = F.take m := ⟨_, rfl⟩
    rw [← hGG] at HPL gt1 gt2 gt3
    rw [← hGG]
    have GT3 := Lib.hid gt3
    have HW := Lib.hid fun (w' : World) (A' : Option Addr) (cf : Nat) (hb : Below w.heap.size w w') (hf : Reads w' w'.heap.size 1 A' m (I G)) => withOwner_any A A' n c m cf _ zs G o w' ((hr.below hb).more hb.size) hf (Nat.le_refl _) hn (by omega) gt2
    have hm0 : (0 : Int) ≤ m := by omega
    have hmF : ¬ ((F.length : Int) < m) := by omega
    clear hr hl hg h1 hF gt3
    go_enter Try.func39, Try.ntmps39
    go_wp2_with (first | (go_at_call 33; refine HG.out.mono ?_; rintro e w1 ⟨rfl, rfl⟩) | (go_at_call 58; refine HI.out.mono ?_; rintro e w1 ⟨rfl, rfl⟩))
    refine HF.out.mono ?_
    rintro e w1 ⟨v, rfl, hown, hb⟩
    obtain ⟨A1, c1, rfl, hc1, _⟩ := own_form hown
    have hk := own_take hown h4
    rw [← GT3.out] at hk
    have HK := Lib.hid hk
    have HB := Lib.hid hb
    clear HG HI HF hown hb hk
    go_wp2_with fail
    refine (HW.out w1 A1 c1 HB.out (Reads.of_own HK.out)).mono ?_
    rintro e w2 ⟨g2, rfl, hown2, hb2⟩
    have hk2 := own_below HK.out hb2
    have ha := (apart_new HK.out hown2).symm
    have hx2 := own_mono hown2 HB.out.size
    have hb3 := HB.out.trans (hb2.mono HB.out.size)
    clear HW HK hown2 hb2 HB
    go_wp2_with fail
    go_ret3
    refine row3_of ?_ ?_ ha hb3
    · rw [HPL.out]; exact hx2
    · rw [gt1]; exact hk2
  · have hx := row3_nil false w
    cases g with
    | false =>
      clear hr hl h hg HF
      go_enter Try.func39, Try.ntmps39
      go_wp2_with (go_at_call 33; refine HG.out.mono ?_; rintro e w1 ⟨rfl, rfl⟩)
      go_ret3
      exact hx
    | true =>
      have hgo := of_decide_eq_true hg
      by_cases ho : 1 ≤ o ∧ o ≤ 4
      · have HI := Lib.hid (isGuest_any o true (decide_eq_true ho) w)
        by_cases hk0 : k < 0
        · clear hr hl h hg HF hgo ho
          go_enter Try.func39, Try.ntmps39
          go_wp2_with (first | (go_at_call 33; refine HG.out.mono ?_; rintro e w1 ⟨rfl, rfl⟩) | (go_at_call 58; refine HI.out.mono ?_; rintro e w1 ⟨rfl, rfl⟩))
          go_ret3
          exact hx
        · obtain ⟨F, hF⟩ : ∃ F, F = fr zs 0 n := ⟨_, rfl⟩
          rw [← hF] at HF h hfl
          have hkF : (F.length : Int) < k := by
            have : ¬ (0 ≤ k ∧ k ≤ (F.length : Int)) := fun hh => h ⟨hgo, ho.1, ho.2, hh⟩
            omega
          clear hr hl h hg hgo ho hF hx
          go_enter Try.func39, Try.ntmps39
          go_wp2_with (first | (go_at_call 33; refine HG.out.mono ?_; rintro e w1 ⟨rfl, rfl⟩) | (go_at_call 58; refine HI.out.mono ?_; rintro e w1 ⟨rfl, rfl⟩))
          refine HF.out.mono ?_
          rintro e w1 ⟨v, rfl, hown, hb⟩
          obtain ⟨A1, c1, rfl, _, _⟩ := own_form hown
          have HB := Lib.hid hb
          have HX := Lib.hid (row3_nil false w1)
          clear HG HI HF hown hb
          go_wp2_with fail
          go_ret3
          exact row3_from HX.out HB.out
      · have HI := Lib.hid (isGuest_any o false (decide_eq_false ho) w)
        clear hr hl h hg HF hgo ho
        go_enter Try.func39, Try.ntmps39
        go_wp2_with (first | (go_at_call 33; refine HG.out.mono ?_; rintro e w1 ⟨rfl, rfl⟩) | (go_at_call 58; refine HI.out.mono ?_; rintro e w1 ⟨rfl, rfl⟩))
        go_ret3
        exact hx
end Go.Proofs.Ytajjmgmjkjnlpaa.Fra
