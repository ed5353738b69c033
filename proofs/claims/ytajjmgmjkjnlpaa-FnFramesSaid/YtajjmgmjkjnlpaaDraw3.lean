/- What chapter 2's draws answer: owners; owners and a guest; owners, a guest and a count. -/
import Derived.Test.YtajjmgmjkjnlpaaDraw2
import Derived.Test.YtajjmgmjkjnlpaaNew
namespace Go.Proofs.Ytajjmgmjkjnlpaa.Draw
open Go.RowKit Go.Proofs.Ytajjmgmjkjnlpaa.Mem Go.Proofs.Ytajjmgmjkjnlpaa.Own
set_option linter.unusedVariables false
/-- at most 17 numbers in a slice of the call's own -/
def OwnersDrawn (w : World) (e : Ending) (w' : World) : Prop :=
  ∃ (A : Option Addr) (c : Nat) (L : List Int), e = .returned (.slice A L.length c) ∧ L.length ≤ 17 ∧ w'.ownsRow w.heap.size 3 1 (.slice A L.length c) L.length (I L) ∧ Below w.heap.size w w'
theorem drawAre_any (w : World) (A : Option Addr) (n cp : Nat) (zs : List Int) (hz : ∀ z ∈ zs, 0 ≤ z ∧ z ≤ 255) (hr : Reads w w.heap.size 1 A n (zs.map (Value.int .u8))) (hn : n ≤ 1000000) :
    Calls Try.prog 54 #[.slice A n cp] w (OwnersDrawn w) := by
  have HC := Lib.hid (cur_new w A n cp zs hr)
  have HZ := Lib.hid hz
  have HB := Lib.hid ((Below.refl w.heap.size w).alloc (Nat.le_refl _) (.cells #[.slice A n cp, .int .i64 0, .int .u64 0] 64))
  clear hr hz
  go_enter Try.func54, Try.ntmps54
  go_wp2_with fail
  refine (owners_any _ w.heap.size w.heap.size A n cp zs 0 HZ.out HC.out (by omega) hn).mono ?_
  rintro e w1 ⟨v, L, rfl, hL, hown, _, hg1⟩
  obtain ⟨A1, c1, rfl, _, _⟩ := own_form hown
  have HR : Hid (OwnersDrawn w (.returned (.slice A1 L.length c1)) w1) := Lib.hid ⟨A1, c1, L, rfl, hL, own_mono hown HB.out.size, below_cur HB.out hg1 (Nat.le_refl _)⟩
  clear hown hg1 HC HB
  go_wp2_with fail
  go_ret
  exact HR.out
theorem drawLong_any (w : World) (A : Option Addr) (n cp : Nat) (zs : List Int) (hz : ∀ z ∈ zs, 0 ≤ z ∧ z ≤ 255) (hr : Reads w w.heap.size 1 A n (zs.map (Value.int .u8))) (hn : n ≤ 1000000) :
    Calls Try.prog 16 #[.slice A n cp] w (OwnersDrawn w) := by
  have HD := Lib.hid (drawAre_any w A n cp zs hz hr hn)
  clear hr hz
  go_enter Try.func16, Try.ntmps16
  go_wp2_with fail
  refine HD.out.mono ?_
  rintro e w1 ⟨A1, c1, L, rfl, hL, hown, hb⟩
  have HR : Hid (OwnersDrawn w (.returned (.slice A1 L.length c1)) w1) := Lib.hid ⟨A1, c1, L, rfl, hL, hown, hb⟩
  clear hown hb
  go_wp2_with fail
  go_ret
  exact HR.out
theorem drawComp_any (w : World) (A : Option Addr) (n cp : Nat) (zs : List Int) (hz : ∀ z ∈ zs, 0 ≤ z ∧ z ≤ 255) (hr : Reads w w.heap.size 1 A n (zs.map (Value.int .u8))) (hn : n ≤ 1000000) :
    Calls Try.prog 23 #[.slice A n cp] w (OwnersDrawn w) := by
  have HD := Lib.hid (drawAre_any w A n cp zs hz hr hn)
  clear hr hz
  go_enter Try.func23, Try.ntmps23
  go_wp2_with fail
  refine HD.out.mono ?_
  rintro e w1 ⟨A1, c1, L, rfl, hL, hown, hb⟩
  have HR : Hid (OwnersDrawn w (.returned (.slice A1 L.length c1)) w1) := Lib.hid ⟨A1, c1, L, rfl, hL, hown, hb⟩
  clear hown hb
  go_wp2_with fail
  go_ret
  exact HR.out
def GuestDrawn (w : World) (e : Ending) (w' : World) : Prop :=
  ∃ (A : Option Addr) (c : Nat) (L : List Int) (x : Int), e = .returned (.tuple #[.slice A L.length c, .int .i64 x]) ∧ L.length ≤ 17 ∧ w'.ownsRow w.heap.size 3 1 (.slice A L.length c) L.length (I L) ∧ Below w.heap.size w w'
theorem drawFrames_any (w : World) (A : Option Addr) (n cp : Nat) (zs : List Int) (hz : ∀ z ∈ zs, 0 ≤ z ∧ z ≤ 255) (hr : Reads w w.heap.size 1 A n (zs.map (Value.int .u8))) (hn : n ≤ 1000000) :
    Calls Try.prog 51 #[.slice A n cp] w (GuestDrawn w) := by
  have HC := Lib.hid (cur_new w A n cp zs hr)
  have HZ := Lib.hid hz
  have hba := (Below.refl w.heap.size w).alloc (Nat.le_refl _) (.cells #[.slice A n cp, .int .i64 0, .int .u64 0] 64)
  have HB := Lib.hid hba
  clear hr hz
  go_enter Try.func51, Try.ntmps51
  go_wp2_with fail
  refine (owners_any _ w.heap.size w.heap.size A n cp zs 0 HZ.out HC.out (by omega) hn).mono ?_
  rintro e w1 ⟨v, L, rfl, hL, hown, ⟨t1, ht1, hc1⟩, hg1⟩
  obtain ⟨A1, c1, rfl, _, _⟩ := own_form hown
  have hlt := HC.out.lt
  have HC1 := Lib.hid hc1
  have HB1 := Lib.hid (below_cur HB.out hg1 (Nat.le_refl _))
  have HO := Lib.hid hown
  clear hown hg1 HC hc1
  go_wp2_with fail
  refine (guest_any _ w.heap.size w.heap.size A n cp zs t1 HZ.out HC1.out (by omega) hn).mono ?_
  rintro e w2 ⟨x, rfl, _, hg2⟩
  have HR : Hid (GuestDrawn w (.returned (.tuple #[.slice A1 L.length c1, .int .i64 x])) w2) := Lib.hid ⟨A1, c1, L, x, rfl, hL, own_mono (own_cur HO.out hg2 hlt) HB.out.size, below_cur HB1.out hg2 (Nat.le_refl _)⟩
  clear hg2 HO HB HB1
  go_wp2_with fail
  go_ret2
  exact HR.out
theorem drawFree_any (w : World) (A : Option Addr) (n cp : Nat) (zs : List Int) (hz : ∀ z ∈ zs, 0 ≤ z ∧ z ≤ 255) (hr : Reads w w.heap.size 1 A n (zs.map (Value.int .u8))) (hn : n ≤ 1000000) :
    Calls Try.prog 28 #[.slice A n cp] w (GuestDrawn w) := by
  have HD := Lib.hid (drawFrames_any w A n cp zs hz hr hn)
  clear hr hz
  go_enter Try.func28, Try.ntmps28
  go_wp2_with fail
  refine HD.out.mono ?_
  rintro e w1 ⟨A1, c1, L, x, rfl, hL, hown, hb⟩
  have HR : Hid (GuestDrawn w (.returned (.tuple #[.slice A1 L.length c1, .int .i64 x])) w1) := Lib.hid ⟨A1, c1, L, x, rfl, hL, hown, hb⟩
  clear hown hb
  go_wp2_with fail
  go_ret2
  exact HR.out
def CountDrawn (w : World) (e : Ending) (w' : World) : Prop :=
  ∃ (A : Option Addr) (c : Nat) (L : List Int) (x y : Int), e = .returned (.tuple #[.slice A L.length c, .int .i64 x, .int .i64 y]) ∧ L.length ≤ 17 ∧ w'.ownsRow w.heap.size 3 1 (.slice A L.length c) L.length (I L) ∧ Below w.heap.size w w'
theorem drawRun_any (w : World) (A : Option Addr) (n cp : Nat) (zs : List Int) (hz : ∀ z ∈ zs, 0 ≤ z ∧ z ≤ 255) (hr : Reads w w.heap.size 1 A n (zs.map (Value.int .u8))) (hn : n ≤ 1000000) :
    Calls Try.prog 20 #[.slice A n cp] w (CountDrawn w) := by
  have HC := Lib.hid (cur_new w A n cp zs hr)
  have HZ := Lib.hid hz
  have hba := (Below.refl w.heap.size w).alloc (Nat.le_refl _) (.cells #[.slice A n cp, .int .i64 0, .int .u64 0] 64)
  have HB := Lib.hid hba
  clear hr hz
  go_enter Try.func20, Try.ntmps20
  go_wp2_with fail
  refine (owners_any _ w.heap.size w.heap.size A n cp zs 0 HZ.out HC.out (by omega) hn).mono ?_
  rintro e w1 ⟨v, L, rfl, hL, hown, ⟨t1, ht1, hc1⟩, hg1⟩
  obtain ⟨A1, c1, rfl, _, _⟩ := own_form hown
  have hlt := HC.out.lt
  have HC1 := Lib.hid hc1
  have HB1 := Lib.hid (below_cur HB.out hg1 (Nat.le_refl _))
  have HO := Lib.hid hown
  clear hown hg1 HC hc1
  go_wp2_with fail
  refine (guest_any _ w.heap.size w.heap.size A n cp zs t1 HZ.out HC1.out (by omega) hn).mono ?_
  rintro e w2 ⟨x, rfl, ⟨t2, ht2, hc2⟩, hg2⟩
  have HO2 := Lib.hid (own_cur HO.out hg2 hlt)
  have HB2 := Lib.hid (below_cur HB1.out hg2 (Nat.le_refl _))
  have HA := Lib.hid (among_list w2 w.heap.size w.heap.size A n cp zs t2 HZ.out hc2 (by omega) hn [1, 1, 2, 3, 4, 0, 16] _ rfl 3 7 rfl (by omega) (by omega))
  clear hg2 hc2 HO HB1 HC1
  go_wp2_with fail
  refine HA.out.mono ?_
  rintro e w3 ⟨y, rfl, _, _, hg3⟩
  have HR : Hid (CountDrawn w (.returned (.tuple #[.slice A1 L.length c1, .int .i64 x, .int .i64 y])) w3) := Lib.hid ⟨A1, c1, L, x, y, rfl, hL, own_mono (own_cur HO2.out hg3 hlt) HB.out.size, below_cur HB2.out hg3 (Nat.le_refl _)⟩
  clear hg3 HO2 HB HB2 HA
  go_wp2_with fail
  go_ret3
  exact HR.out
end Go.Proofs.Ytajjmgmjkjnlpaa.Draw
