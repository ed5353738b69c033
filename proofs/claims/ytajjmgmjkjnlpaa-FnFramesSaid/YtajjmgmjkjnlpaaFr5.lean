/- What FreeGuest and GrantFrames of spec and impl answer. -/
import Derived.Test.YtajjmgmjkjnlpaaFr4
import Derived.Deep.RegionHeld
namespace Go.Proofs.Ytajjmgmjkjnlpaa.Fra
open Go.RowKit Go.Proofs.Ytajjmgmjkjnlpaa.Mem Go.Proofs.Ytajjmgmjkjnlpaa.Own Go.Proofs.Ytajjmgmjkjnlpaa.L1
/-- a call's answer: the numbers xs in a slice of its own, a number and b -/
def Row2 (xs : List Int) (k : Int) (b : Bool) (w : World) (e : Ending) (w' : World) : Prop :=
  ∃ (A : Option Addr) (c : Nat), e = .returned (.tuple #[.slice A xs.length c, .int .i64 k, .bool b]) ∧ w'.ownsRow w.heap.size 3 1 (.slice A xs.length c) xs.length (I xs) ∧ Below w.heap.size w w'
theorem row2_of {xs : List Int} {k : Int} {b : Bool} {w w' : World} {v : Value} (h : w'.ownsRow w.heap.size 3 1 v xs.length (I xs)) (hb : Below w.heap.size w w') : Row2 xs k b w (.returned (.tuple #[v, .int .i64 k, .bool b])) w' := by
  obtain ⟨A, c, rfl, _, _⟩ := own_form h
  exact ⟨A, c, rfl, h, hb⟩
theorem row2_empty (k : Int) (b : Bool) (w : World) : Row2 [] k b w (.returned (.tuple #[.slice (some ⟨w.heap.size, 0, none⟩) 0 0, .int .i64 k, .bool b])) (w.alloc (.cells #[] 3)) :=
  row2_of (xs := []) (World.ownsRow_made w #[] 0 (Nat.le_refl _) (Nat.zero_le _) rfl) ((Below.refl w.heap.size w).alloc (Nat.le_refl _) (.cells #[] 3))
theorem row2_nil (k : Int) (b : Bool) (w : World) : Row2 [] k b w (.returned (.tuple #[.slice none 0 0, .int .i64 k, .bool b])) w :=
  row2_of (xs := []) (World.ownsRow_nil _ _ _ _) (Below.refl _ _)
/-- a call's answer: two slices of its own and b -/
def Row3 (xs ys : List Int) (b : Bool) (w : World) (e : Ending) (w' : World) : Prop :=
  ∃ (A : Option Addr) (c : Nat) (A' : Option Addr) (c' : Nat), e = .returned (.tuple #[.slice A xs.length c, .slice A' ys.length c', .bool b]) ∧ w'.ownsRow w.heap.size 3 1 (.slice A xs.length c) xs.length (I xs) ∧ w'.ownsRow w.heap.size 3 1 (.slice A' ys.length c') ys.length (I ys) ∧ Apart (.slice A xs.length c) (.slice A' ys.length c') ∧ Below w.heap.size w w'
theorem row3_of {xs ys : List Int} {b : Bool} {w w' : World} {v v' : Value} (h : w'.ownsRow w.heap.size 3 1 v xs.length (I xs)) (h' : w'.ownsRow w.heap.size 3 1 v' ys.length (I ys)) (ha : Apart v v') (hb : Below w.heap.size w w') : Row3 xs ys b w (.returned (.tuple #[v, v', .bool b])) w' := by
  obtain ⟨A, c, rfl, _, _⟩ := own_form h
  obtain ⟨A', c', rfl, _, _⟩ := own_form h'
  exact ⟨A, c, A', c', rfl, h, h', ha, hb⟩
theorem row3_nil (b : Bool) (w : World) : Row3 [] [] b w (.returned (.tuple #[.slice none 0 0, .slice none 0 0, .bool b])) w :=
  row3_of (xs := []) (ys := []) (World.ownsRow_nil _ _ _ _) (World.ownsRow_nil _ _ _ _) (by intro k hk; cases hk) (Below.refl _ _)
theorem row3_empty (b : Bool) (w : World) : Row3 [] [] b w (.returned (.tuple #[.slice (some ⟨w.heap.size, 0, none⟩) 0 0, .slice (some ⟨w.heap.size + 1, 0, none⟩) 0 0, .bool b])) ((w.alloc (.cells #[] 3)).alloc (.cells #[] 3)) := by
  have h1 : (w.alloc (.cells #[] 3)).ownsRow w.heap.size 3 1 (.slice (some ⟨w.heap.size, 0, none⟩) 0 0) 0 [] := World.ownsRow_made w #[] 0 (Nat.le_refl _) (Nat.zero_le _) rfl
  have hb1 : Below w.heap.size w (w.alloc (.cells #[] 3)) := (Below.refl w.heap.size w).alloc (Nat.le_refl _) _
  have hz : (w.alloc (.cells #[] 3)).heap.size = w.heap.size + 1 := Array.size_push _
  have h2 : ((w.alloc (.cells #[] 3)).alloc (.cells #[] 3)).ownsRow w.heap.size 3 1 (.slice (some ⟨w.heap.size + 1, 0, none⟩) 0 0) 0 [] := by
    have := World.ownsRow_made (base := w.heap.size) (e := 3) (size := 1) (w.alloc (.cells #[] 3)) #[] 0 (by omega) (Nat.zero_le _) rfl
    rwa [hz] at this
  exact row3_of (xs := []) (ys := []) (h1.alloc _) h2 (by intro k hk hk'; simp [Value.ownBlock] at hk hk'; omega) (hb1.alloc (by omega) _)
def FreeIs (zs : List Int) (o : Int) (xs : List Int) (k : Int) (b : Bool) : Prop :=
  (GoodOw zs ∧ 1 ≤ o ∧ o ≤ 4 ∧ xs = put zs 0 (fr zs o zs.length) ∧ k = (fr zs o zs.length).length ∧ b = true) ∨ (¬ (GoodOw zs ∧ 1 ≤ o ∧ o ≤ 4) ∧ xs = [] ∧ k = 0 ∧ b = false)
theorem freeIs_ex (zs : List Int) (o : Int) : ∃ xs k b, FreeIs zs o xs k b ∧ xs.length ≤ 16 := by
  by_cases h : GoodOw zs ∧ 1 ≤ o ∧ o ≤ 4
  · exact ⟨_, _, _, .inl ⟨h.1, h.2.1, h.2.2, rfl, rfl, rfl⟩, by rw [put_len]; exact h.1.2.2⟩
  · exact ⟨_, _, _, .inr ⟨h, rfl, rfl, rfl⟩, by simp⟩
theorem fr_bd {zs : List Int} {o : Int} {n : Nat} : ∀ f ∈ fr zs o n, 0 ≤ f ∧ f < n := by
  intro f hf
  obtain ⟨j, h1, h2, _⟩ := fr_mem.1 hf
  omega
set_option maxHeartbeats 2000000 in
theorem specFreeGuest_any (A : Option Addr) (n c : Nat) (zs : List Int) (o : Int) (xs : List Int) (k : Int) (b : Bool) (h : FreeIs zs o xs k b) (hn : n ≤ 1048576) (w : World) (hr : Reads w w.heap.size 1 A n (I zs)) (hc0 : A = none → n = 0 ∧ c = 0) :
    Calls Try.prog 30 #[.slice A n c, .int .i64 o] w (Row2 xs k b w) := by
  have hl : zs.length = n := by have := hr.len; simpa [I] using this
  obtain ⟨g, hg⟩ : ∃ g, decide (GoodOw zs ∧ 1 ≤ o ∧ o ≤ 4) = g := ⟨_, rfl⟩
  have HG := Lib.hid (l2Guest_any A n c _ zs o w hr hn g hg)
  rcases h with ⟨h1, h2, h3, rfl, rfl, rfl⟩ | ⟨h, rfl, rfl, rfl⟩
  · have hgt : g = true := by rw [← hg]; exact decide_eq_true ⟨h1, h2, h3⟩
    subst hgt
    rw [hl]
    have hfb : ∀ f ∈ fr zs o n, 0 ≤ f ∧ f < n := fr_bd
    have hfl := fr_len zs o n
    have HO := Lib.hid (l1Own_any A n c _ zs w hr hc0 hn)
    have HF := Lib.hid fun (w' : World) (hb : Below w.heap.size w w') => l2Of_any A n c w.heap.size zs o w' (hr.below hb) hb.size hn
    have HPL : Hid ((put zs 0 (fr zs o n)).length = n) := Lib.hid (by rw [put_len]; exact hl)
    obtain ⟨F, hF⟩ : ∃ F, F = fr zs o n := ⟨_, rfl⟩
    rw [← hF] at HF HPL hfb hfl
    rw [← hF]
    have HZ := Lib.hid hl
    clear hr hl hg h1 hF
    go_enter Try.func30, Try.ntmps30
    go_wp2_with (go_at_call 63; refine HG.out.mono ?_; rintro e w1 ⟨rfl, rfl⟩)
    refine HO.out.mono ?_
    rintro e w1 ⟨v, rfl, hown, hb⟩
    obtain ⟨A1, c1, rfl, _, _⟩ := own_form hown
    clear HO HG
    go_wp2_with fail
    refine (HF.out w1 hb).mono ?_
    rintro e w2 ⟨v2, rfl, hown2, hb2⟩
    obtain ⟨A2, c2, rfl, _, _⟩ := own_form hown2
    have hown1 := own_below hown hb2
    have hf := (Reads.of_own hown2)
    have ha := apart_new hown hown2
    have hbb := hb.trans (hb2.mono hb.size)
    have hown2' := own_mono hown2 hb.size
    clear hown HF hown2 hb2 hb
    go_wp2_with fail
    go_loopw [9] (fun i wr => ∃ (q : Nat) (L : List Value), i = .int .i64 q ∧ q ≤ F.length ∧ Hid (L = I (put zs 0 (F.take q))) ∧ wr.ownsRow w.heap.size 3 1 (.slice A1 n c1) n L ∧ Hid (Reads wr w2.heap.size 1 A2 F.length (I F)) ∧ Below w.heap.size w wr ∧ w2.heap.size ≤ wr.heap.size) (fun i _ => F.length - (intOf i).toNat)
    case atStart => exact ⟨0, _, rfl, Nat.zero_le _, Lib.hid (by simp [put]), hown1, Lib.hid hf, hbb, Nat.le_refl _⟩
    case round =>
      obtain ⟨q, L, rfl, hq, HQ, hown, HR, hbel, hz2⟩ := hrel
      by_cases hlt : q < F.length
      · obtain ⟨b1, o1, f, hA2, _, hu, hc⟩ := HR.out.int_at hlt
        obtain ⟨j, rfl⟩ : ∃ j : Nat, f = j := ⟨f.toNat, by have := (hfb f (List.mem_of_getElem? hu)).1; omega⟩
        have hj : j < n := by have := (hfb _ (List.mem_of_getElem? hu)).2; omega
        obtain ⟨g1, hA1⟩ := own_head hown (by omega)
        subst hA1
        have hne : b1 ≠ g1 := by
          intro e
          subst hA2
          exact ha g1 rfl (by simp [Value.ownBlock, e])
        subst hA2
        have HQ2 : Hid (L.set j (.int .i64 0) = I (put zs 0 (F.take (q + 1)))) := Lib.hid (by rw [put_snoc zs 0 F q _ hu, HQ.out, I_set]; rfl)
        have hst := Lib.hid (hown.stored j (.int .i64 0)).1
        have hfz := hown.frozenAt j
        have hLl : L.length = n := by have := hown.1; omega
        obtain ⟨z, hz⟩ : ∃ z, wr.cell? ⟨g1, j, none⟩ = some z := ⟨_, (hown.cellAt j (by omega)).trans (List.getElem?_eq_getElem (by omega))⟩
        have hgb := (hown.lt g1 rfl).1
        have hbel2 : Below w.heap.size w (wr.setCell ⟨g1, j, none⟩ (.int .i64 0)) := hbel.setCell (p := ⟨g1, j, none⟩) hgb _
        have HR2 : Hid (Reads (wr.setCell ⟨g1, j, none⟩ (.int .i64 0)) w2.heap.size 1 (some ⟨b1, o1, none⟩) F.length (I F)) := Lib.hid (by
          refine ⟨HR.out.1, fun hp => ?_⟩
          obtain ⟨b', off', e, hb', hcc⟩ := HR.out.2 hp
          obtain ⟨rfl, rfl⟩ : b1 = b' ∧ o1 = off' := by simpa using e
          exact ⟨b1, o1, rfl, hb', fun i u hi => by rw [World.cell?_setCell_far _ _ _ _ (by exact hne.symm)]; exact hcc i u hi⟩)
        have hz3 : w2.heap.size ≤ (wr.setCell ⟨g1, j, none⟩ (.int .i64 0)).heap.size := by simpa [World.setCell] using hz2
        clear HR hu hown HQ hbel
        go_wp2
        go_roundw
        case rel => exact ⟨q + 1, _, by go_num, by omega, HQ2, hst.out, HR2, hbel2, hz3⟩
        case measure => simp [intOf]; omega
      · have hqm : q = F.length := by omega
        have HQ2 : Hid (L = I (put zs 0 F)) := Lib.hid (by rw [HQ.out, List.take_of_length_le (by omega)])
        clear hqm HQ
        go_wp2
        go_ret3
        refine row2_of ?_ hbel
        rw [HPL.out, ← HQ2.out]
        exact hown
  · have hx := row2_empty 0 false w
    have hgf : g = false := by rw [← hg]; exact decide_eq_false h
    subst hgf
    clear hr hl h hg hc0
    go_enter Try.func30, Try.ntmps30
    go_wp2_with (go_at_call 63; refine HG.out.mono ?_; rintro e w1 ⟨rfl, rfl⟩)
    go_ret3
    exact hx
set_option maxHeartbeats 2000000 in
theorem implFreeGuest_any (A : Option Addr) (n c : Nat) (zs : List Int) (o : Int) (xs : List Int) (k : Int) (b : Bool) (h : FreeIs zs o xs k b) (hn : n ≤ 1048576) (w : World) (hr : Reads w w.heap.size 1 A n (I zs)) :
    Calls Try.prog 29 #[.slice A n c, .int .i64 o] w (Row2 xs k b w) := by
  have hl : zs.length = n := by have := hr.len; simpa [I] using this
  obtain ⟨g, hg⟩ : ∃ g, decide (GoodOw zs) = g := ⟨_, rfl⟩
  have HG := Lib.hid (implAreOwners_any A n c _ zs w hr hn g hg)
  rcases h with ⟨h1, h2, h3, rfl, rfl, rfl⟩ | ⟨h, rfl, rfl, rfl⟩
  · have hgt : g = true := by rw [← hg]; exact decide_eq_true h1
    subst hgt
    rw [hl]
    have HI := Lib.hid (isGuest_any o true (decide_eq_true ⟨h2, h3⟩) w)
    have HF := Lib.hid (framesWith_any A n c _ zs o w hr (Nat.le_refl _) hn)
    have HW := Lib.hid fun (w' : World) (F : Option Addr) (cf : Nat) (hb : Below w.heap.size w w') (hf : Reads w' w'.heap.size 1 F (fr zs o n).length (I (fr zs o n))) => withOwner_any A F n c (fr zs o n).length cf _ zs (fr zs o n) 0 w' ((hr.below hb).more hb.size) hf (Nat.le_refl _) hn (by have := fr_len zs o n; omega) fr_bd
    have hfl := fr_len zs o n
    have HPL : Hid ((put zs 0 (fr zs o n)).length = n) := Lib.hid (by rw [put_len]; exact hl)
    obtain ⟨F, hF⟩ : ∃ F, F = fr zs o n := ⟨_, rfl⟩
    rw [← hF] at HF HPL hfl HW
    rw [← hF]
    clear hr hl hg h1 hF
    go_enter Try.func29, Try.ntmps29
    go_wp2_with (first | (go_at_call 33; refine HG.out.mono ?_; rintro e w1 ⟨rfl, rfl⟩) | (go_at_call 58; refine HI.out.mono ?_; rintro e w1 ⟨rfl, rfl⟩))
    refine HF.out.mono ?_
    rintro e w1 ⟨v, rfl, hown, hb⟩
    obtain ⟨A1, c1, rfl, _, _⟩ := own_form hown
    have hf := Reads.of_own hown
    clear HG HI HF hown
    go_wp2_with fail
    refine (HW.out w1 A1 c1 hb hf).mono ?_
    rintro e w2 ⟨g2, rfl, hown, hb2⟩
    have hbb := hb.trans (hb2.mono hb.size)
    have hown2 := own_mono hown hb.size
    clear HW hown hb2 hb hf
    go_wp2_with fail
    go_ret3
    refine row2_of ?_ hbb
    rw [HPL.out]
    exact hown2
  · have hx := row2_nil 0 false w
    cases g with
    | false =>
      clear hr hl h hg
      go_enter Try.func29, Try.ntmps29
      go_wp2_with (go_at_call 33; refine HG.out.mono ?_; rintro e w1 ⟨rfl, rfl⟩)
      go_ret3
      exact hx
    | true =>
      have hno : ¬ (1 ≤ o ∧ o ≤ 4) := fun hh => h ⟨of_decide_eq_true hg, hh⟩
      have HI := Lib.hid (isGuest_any o false (decide_eq_false hno) w)
      clear hr hl h hg hno
      go_enter Try.func29, Try.ntmps29
      go_wp2_with (first | (go_at_call 33; refine HG.out.mono ?_; rintro e w1 ⟨rfl, rfl⟩) | (go_at_call 58; refine HI.out.mono ?_; rintro e w1 ⟨rfl, rfl⟩))
      go_ret3
      exact hx
end Go.Proofs.Ytajjmgmjkjnlpaa.Fra
