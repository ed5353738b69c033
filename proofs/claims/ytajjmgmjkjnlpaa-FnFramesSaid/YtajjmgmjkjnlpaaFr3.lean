/- What spec.FramesOf and impl.FramesOf answer. -/
import Derived.Test.YtajjmgmjkjnlpaaFr2
import Derived.Test.YtajjmgmjkjnlpaaStep
namespace Go.Proofs.Ytajjmgmjkjnlpaa.Fra
open Go.RowKit Go.Proofs.Ytajjmgmjkjnlpaa.Mem Go.Proofs.Ytajjmgmjkjnlpaa.Own Go.Proofs.Ytajjmgmjkjnlpaa.L1
/-- a call's answer: the numbers xs in a slice of its own, and b -/
def Row1 (xs : List Int) (b : Bool) (w : World) (e : Ending) (w' : World) : Prop :=
  ∃ (A : Option Addr) (c : Nat), e = .returned (.tuple #[.slice A xs.length c, .bool b]) ∧ w'.ownsRow w.heap.size 3 1 (.slice A xs.length c) xs.length (I xs) ∧ Below w.heap.size w w'
theorem row1_of {xs : List Int} {b : Bool} {w w' : World} {v : Value} (h : w'.ownsRow w.heap.size 3 1 v xs.length (I xs)) (hb : Below w.heap.size w w') : Row1 xs b w (.returned (.tuple #[v, .bool b])) w' := by
  obtain ⟨A, c, rfl, _, _⟩ := own_form h
  exact ⟨A, c, rfl, h, hb⟩
theorem row1_empty (b : Bool) (w : World) : Row1 [] b w (.returned (.tuple #[.slice (some ⟨w.heap.size, 0, none⟩) 0 0, .bool b])) (w.alloc (.cells #[] 3)) :=
  row1_of (xs := []) (World.ownsRow_made w #[] 0 (Nat.le_refl _) (Nat.zero_le _) rfl) ((Below.refl w.heap.size w).alloc (Nat.le_refl _) (.cells #[] 3))
theorem row1_nil (b : Bool) (w : World) : Row1 [] b w (.returned (.tuple #[.slice none 0 0, .bool b])) w :=
  row1_of (xs := []) (World.ownsRow_nil _ _ _ _) (Below.refl _ _)
def FramesIs (zs : List Int) (o : Int) (xs : List Int) (b : Bool) : Prop :=
  (GoodOw zs ∧ 0 ≤ o ∧ o ≤ 4 ∧ xs = fr zs o zs.length ∧ b = true) ∨ (¬ (GoodOw zs ∧ 0 ≤ o ∧ o ≤ 4) ∧ xs = [] ∧ b = false)
theorem framesIs_ex (zs : List Int) (o : Int) : ∃ xs b, FramesIs zs o xs b ∧ xs.length ≤ 16 := by
  by_cases h : GoodOw zs ∧ 0 ≤ o ∧ o ≤ 4
  · exact ⟨_, _, .inl ⟨h.1, h.2.1, h.2.2, rfl, rfl⟩, by have := fr_len zs o zs.length; have := h.1.2.2; omega⟩
  · exact ⟨_, _, .inr ⟨h, rfl, rfl⟩, by simp⟩
set_option maxHeartbeats 1000000 in
theorem specFramesOf_any (A : Option Addr) (n c : Nat) (zs : List Int) (o : Int) (xs : List Int) (b : Bool) (h : FramesIs zs o xs b) (hn : n ≤ 1048576) (w : World) (hr : Reads w w.heap.size 1 A n (I zs)) :
    Calls Try.prog 35 #[.slice A n c, .int .i64 o] w (Row1 xs b w) := by
  have hl : zs.length = n := by have := hr.len; simpa [I] using this
  obtain ⟨g, hg⟩ : ∃ g, decide (GoodOw zs) = g := ⟨_, rfl⟩
  have HG := Lib.hid (l2Good_any A n c _ zs w hr hn g hg)
  rcases h with ⟨h1, h2, h3, rfl, rfl⟩ | ⟨h, rfl, rfl⟩
  · have hgt : g = true := by rw [← hg]; exact decide_eq_true h1
    subst hgt
    have HO := Lib.hid (l2Of_any A n c _ zs o w hr (Nat.le_refl _) hn)
    rw [hl]
    clear hr hl hg h1
    go_enter Try.func35, Try.ntmps35
    go_wp2_with (first | (go_at_call 56; refine HG.out.mono ?_; rintro e w1 ⟨rfl, rfl⟩) | (go_at_call 70; refine (l1In_yes o 0 4 h2 h3 _).mono ?_; rintro e w1 ⟨rfl, rfl⟩) | (go_at_call 69; refine HO.out.mono ?_; rintro e w1 ⟨v, rfl, hown, hb⟩))
    go_ret2
    exact row1_of hown hb
  · have hx := row1_empty false w
    cases g with
    | false =>
      clear hr hl h hg
      go_enter Try.func35, Try.ntmps35
      go_wp2_with (go_at_call 56; refine HG.out.mono ?_; rintro e w1 ⟨rfl, rfl⟩)
      go_ret2
      exact hx
    | true =>
      have hno : o < 0 ∨ 4 < o := by have := of_decide_eq_true hg; have : ¬ (0 ≤ o ∧ o ≤ 4) := fun hh => h ⟨this, hh⟩; omega
      clear hr hl h hg
      go_enter Try.func35, Try.ntmps35
      go_wp2_with (first | (go_at_call 56; refine HG.out.mono ?_; rintro e w1 ⟨rfl, rfl⟩) | (go_at_call 70; refine (l1In_no o 0 4 hno _).mono ?_; rintro e w1 ⟨rfl, rfl⟩))
      go_ret2
      exact hx
set_option maxHeartbeats 1000000 in
theorem implFramesOf_any (A : Option Addr) (n c : Nat) (zs : List Int) (o : Int) (xs : List Int) (b : Bool) (h : FramesIs zs o xs b) (hn : n ≤ 1048576) (w : World) (hr : Reads w w.heap.size 1 A n (I zs)) :
    Calls Try.prog 27 #[.slice A n c, .int .i64 o] w (Row1 xs b w) := by
  have hl : zs.length = n := by have := hr.len; simpa [I] using this
  obtain ⟨g, hg⟩ : ∃ g, decide (GoodOw zs) = g := ⟨_, rfl⟩
  have HG := Lib.hid (implAreOwners_any A n c _ zs w hr hn g hg)
  rcases h with ⟨h1, h2, h3, rfl, rfl⟩ | ⟨h, rfl, rfl⟩
  · have hgt : g = true := by rw [← hg]; exact decide_eq_true h1
    subst hgt
    have HO := Lib.hid (framesWith_any A n c _ zs o w hr (Nat.le_refl _) hn)
    rw [hl]
    clear hr hl hg h1
    by_cases h0 : o = 0
    · subst h0
      go_enter Try.func27, Try.ntmps27
      go_wp2_with (first | (go_at_call 33; refine HG.out.mono ?_; rintro e w1 ⟨rfl, rfl⟩) | (go_at_call 68; refine HO.out.mono ?_; rintro e w1 ⟨v, rfl, hown, hb⟩))
      go_ret2
      exact row1_of hown hb
    · have t1 : (o == 0) = false := by simpa using h0
      have t2 : (o != 0) = true := by simp only [bne, t1, Bool.not_false]
      have h4 : 1 ≤ o ∧ o ≤ 4 := by omega
      have HI := Lib.hid (isGuest_any o true (decide_eq_true h4) w)
      clear h4
      go_enter Try.func27, Try.ntmps27
      go_wp2_with (first | (go_at_call 33; refine HG.out.mono ?_; rintro e w1 ⟨rfl, rfl⟩) | (go_at_call 58; refine HI.out.mono ?_; rintro e w1 ⟨rfl, rfl⟩) | (go_at_call 68; refine HO.out.mono ?_; rintro e w1 ⟨v, rfl, hown, hb⟩))
      go_ret2
      exact row1_of hown hb
  · have hx := row1_nil false w
    cases g with
    | false =>
      clear hr hl h hg
      go_enter Try.func27, Try.ntmps27
      go_wp2_with (go_at_call 33; refine HG.out.mono ?_; rintro e w1 ⟨rfl, rfl⟩)
      go_ret2
      exact hx
    | true =>
      have hno : o < 0 ∨ 4 < o := by have := of_decide_eq_true hg; have : ¬ (0 ≤ o ∧ o ≤ 4) := fun hh => h ⟨this, hh⟩; omega
      have t1 : (o == 0) = false := by simp; omega
      have t2 : (o != 0) = true := by simp only [bne, t1, Bool.not_false]
      have h4 : ¬ (1 ≤ o ∧ o ≤ 4) := by omega
      have HI := Lib.hid (isGuest_any o false (decide_eq_false h4) w)
      clear hr hl h hg h4
      go_enter Try.func27, Try.ntmps27
      go_wp2_with (first | (go_at_call 33; refine HG.out.mono ?_; rintro e w1 ⟨rfl, rfl⟩) | (go_at_call 58; refine HI.out.mono ?_; rintro e w1 ⟨rfl, rfl⟩))
      go_ret2
      exact hx
end Go.Proofs.Ytajjmgmjkjnlpaa.Fra
