/- What the draws of FnFrames answer. -/
import Derived.Test.YtajjmgmjkjnlpaaDraw3
import Derived.Test.YtajjmgmjkjnlpaaOne
namespace Go.Proofs.Ytajjmgmjkjnlpaa.Draw
open Go.RowKit Go.Proofs.Ytajjmgmjkjnlpaa.Mem Go.Proofs.Ytajjmgmjkjnlpaa.Own
set_option linter.unusedVariables false
theorem drawGrant_any (w : World) (A : Option Addr) (n cp : Nat) (zs : List Int) (hz : ∀ z ∈ zs, 0 ≤ z ∧ z ≤ 255) (hr : Reads w w.heap.size 1 A n (zs.map (Value.int .u8))) (hn : n ≤ 1000000) :
    Calls Try.prog 49 #[.slice A n cp] w (CountDrawn w) := by
  have HC := Lib.hid (cur_new w A n cp zs hr)
  have HZ := Lib.hid hz
  have hba := (Below.refl w.heap.size w).alloc (Nat.le_refl _) (.cells #[.slice A n cp, .int .i64 0, .int .u64 0] 64)
  have HB := Lib.hid hba
  clear hr hz
  go_enter Try.func49, Try.ntmps49
  go_wp2_with fail
  refine (owners_any _ w.heap.size w.heap.size A n cp zs 0 HZ.out HC.out (by omega) hn).mono ?_
  rintro e w1 ⟨v, L, rfl, hL, hown, ⟨t1, ht1, hc1⟩, hg1⟩
  obtain ⟨A1, c1, rfl, _, _⟩ := own_form hown
  have hlt := HC.out.lt
  have HC1 := Lib.hid hc1
  have HB1 := Lib.hid (below_cur HB.out hg1 (Nat.le_refl _))
  have HO := Lib.hid hown
  clear hown hg1 HC hc1
  go_wp2_with fail
  refine (guest_any _ w.heap.size w.heap.size A n cp zs t1 HZ.out HC1.out (by omega) hn).mono ?_
  rintro e w2 ⟨x, rfl, ⟨t2, ht2, hc2⟩, hg2⟩
  have HO2 := Lib.hid (own_cur HO.out hg2 hlt)
  have HB2 := Lib.hid (below_cur HB1.out hg2 (Nat.le_refl _))
  have HA := Lib.hid (among_list w2 w.heap.size w.heap.size A n cp zs t2 HZ.out hc2 (by omega) hn [0, 1, 2, 3, 5, 8, -1] _ rfl 3 7 rfl (by omega) (by omega))
  clear hg2 hc2 HO HB1 HC1
  go_wp2_with fail
  refine HA.out.mono ?_
  rintro e w3 ⟨y, rfl, _, _, hg3⟩
  have HR : Hid (CountDrawn w (.returned (.tuple #[.slice A1 L.length c1, .int .i64 x, .int .i64 y])) w3) := Lib.hid ⟨A1, c1, L, x, y, rfl, hL, own_mono (own_cur HO2.out hg3 hlt) HB.out.size, below_cur HB2.out hg3 (Nat.le_refl _)⟩
  clear hg3 HO2 HB HB2 HA
  go_wp2_with fail
  go_ret3
  exact HR.out
theorem drawText_any (w : World) (A : Option Addr) (n cp : Nat) (zs : List Int) (hz : ∀ z ∈ zs, 0 ≤ z ∧ z ≤ 255) (hr : Reads w w.heap.size 1 A n (zs.map (Value.int .u8))) (hn : n ≤ 1000000) :
    Calls Try.prog 52 #[.slice A n cp] w (OwnersDrawn w) := by
  have HD := Lib.hid (drawAre_any w A n cp zs hz hr hn)
  clear hr hz
  go_enter Try.func52, Try.ntmps52
  go_wp2_with fail
  refine HD.out.mono ?_
  rintro e w1 ⟨A1, c1, L, rfl, hL, hown, hb⟩
  have HR : Hid (OwnersDrawn w (.returned (.slice A1 L.length c1)) w1) := Lib.hid ⟨A1, c1, L, rfl, hL, hown, hb⟩
  clear hown hb
  go_wp2_with fail
  go_ret
  exact HR.out
set_option maxHeartbeats 2000000 in
theorem drawTake_any (w : World) (A : Option Addr) (n cp : Nat) (zs : List Int) (hz : ∀ z ∈ zs, 0 ≤ z ∧ z ≤ 255) (hr : Reads w w.heap.size 1 A n (zs.map (Value.int .u8))) (hn : n ≤ 1000000) :
    Calls Try.prog 50 #[.slice A n cp] w (CountDrawn w) := by
  have HC := Lib.hid (cur_new w A n cp zs hr)
  have HZ := Lib.hid hz
  have hba := (Below.refl w.heap.size w).alloc (Nat.le_refl _) (.cells #[.slice A n cp, .int .i64 0, .int .u64 0] 64)
  have HB := Lib.hid hba
  clear hr hz
  go_enter Try.func50, Try.ntmps50
  go_wp2_with fail
  refine (owners_any _ w.heap.size w.heap.size A n cp zs 0 HZ.out HC.out (by omega) hn).mono ?_
  rintro e w1 ⟨v, L, rfl, hL, hown, ⟨t1, ht1, hc1⟩, hg1⟩
  obtain ⟨A1, c1, rfl, _, _⟩ := own_form hown
  have hlt := HC.out.lt
  have HC1 := Lib.hid hc1
  have HB1 := Lib.hid (below_cur HB.out hg1 (Nat.le_refl _))
  have HO := Lib.hid hown
  clear hown hg1 HC hc1
  go_wp2_with fail
  refine (pick_any _ w.heap.size w.heap.size A n cp zs t1 HZ.out HC1.out (by omega) hn ((L.length : Int) + 1) (by omega) (by omega)).mono ?_
  rintro e w2 ⟨p, rfl, hp0, hp1, ⟨t2, ht2, hc2⟩, hg2⟩
  have HO2 := Lib.hid (own_cur HO.out hg2 hlt)
  have HB2 := Lib.hid (below_cur HB1.out hg2 (Nat.le_refl _))
  have HC2 := Lib.hid hc2
  clear hg2 hc2 HO HB1 HC1
  go_wp2_with fail
  refine (pick_any _ w.heap.size w.heap.size A n cp zs t2 HZ.out HC2.out (by omega) hn 17 (by omega) (by omega)).mono ?_
  rintro e w3 ⟨r, rfl, hr0, hr1, ⟨t3, ht3, hc3⟩, hg3⟩
  have HO3 := Lib.hid (own_cur HO2.out hg3 hlt)
  have HB3 := Lib.hid (below_cur HB2.out hg3 (Nat.le_refl _))
  have HC3 := Lib.hid hc3
  have hd0 : 0 ≤ r / 16 := by omega
  have hd1 : r / 16 ≤ 1 := by omega
  clear hg3 hc3 HO2 HB2 HC2
  go_wp2_with fail
  refine (guest_any _ w.heap.size w.heap.size A n cp zs t3 HZ.out HC3.out (by omega) hn).mono ?_
  rintro e w4 ⟨x, rfl, ⟨t4, ht4, hc4⟩, hg4⟩
  have HO4 := Lib.hid (own_cur HO3.out hg4 hlt)
  have HB4 := Lib.hid (below_cur HB3.out hg4 (Nat.le_refl _))
  have HC4 := Lib.hid hc4
  clear hg4 hc4 HO3 HB3 HC3
  by_cases hin : 0 ≤ p - r / 16 ∧ p - r / 16 < L.length
  · obtain ⟨hin0, hin1⟩ := hin
    go_wp2_with fail
    refine (one_any _ w.heap.size w.heap.size A n cp zs t4 HZ.out HC4.out (by omega) hn 2 (by omega) (by omega)).mono ?_
    rintro e w5 ⟨b, rfl, _, hg5⟩
    have hO5 := own_mono (own_cur HO4.out hg5 hlt) HB.out.size
    have HB5 := Lib.hid (below_cur HB4.out hg5 (Nat.le_refl _))
    obtain ⟨g1, rfl⟩ := own_head hO5 (by omega)
    obtain ⟨y, hy⟩ : ∃ y, L[(p - r / 16).toNat]? = some y := ⟨_, List.getElem?_eq_getElem (by omega)⟩
    have hcy : w5.cell? ⟨g1, (p - r / 16).toNat, none⟩ = some (.int .i64 y) := (hO5.cellAt _ (by omega)).trans (I_at hy)
    have HO5 := Lib.hid hO5
    clear hg5 hO5 HO4 HB4 HC4 hy
    cases b with
    | true =>
      go_wp2_with fail
      go_ret3
      exact ⟨_, c1, L, _, _, rfl, hL, HO5.out, HB5.out⟩
    | false =>
      go_wp2_with fail
      go_ret3
      exact ⟨_, c1, L, _, _, rfl, hL, HO5.out, HB5.out⟩
  · have hO5 := Lib.hid (own_mono HO4.out HB.out.size)
    by_cases hin0 : 0 ≤ p - r / 16
    · have hin1 : ¬ p - r / 16 < L.length := fun h => hin ⟨hin0, h⟩
      have hin2 : decide (p - r / 16 < (L.length : Int)) = false := decide_eq_false hin1
      clear hin
      go_wp2_with fail
      go_ret3
      exact ⟨_, c1, L, _, _, rfl, hL, hO5.out, HB4.out⟩
    · clear hin
      go_wp2_with fail
      go_ret3
      exact ⟨_, c1, L, _, _, rfl, hL, hO5.out, HB4.out⟩
end Go.Proofs.Ytajjmgmjkjnlpaa.Draw
