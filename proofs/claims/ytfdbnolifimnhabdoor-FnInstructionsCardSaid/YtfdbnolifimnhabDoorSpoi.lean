/- What the draws' spoilt texts answer: short texts. -/
import Derived.Test.YtfdbnolifimnhabDoorDrawO
import Derived.Test.YtfdbnolifimnhabDoorOne
import Derived.Test.YtfdbnolifimnhabDoorL1Pure
import Derived.Laws.Strings2
import Derived.Laws.Strings3
namespace Go.Proofs.YtfdbnolifimnhabDoor.Draw
open Go.RowKit Go.Proofs.YtfdbnolifimnhabDoor.Mem Go.Proofs.YtfdbnolifimnhabDoor.Own Go.Proofs.YtfdbnolifimnhabDoor.L1
set_option linter.unusedVariables false
/-- what a draw of a spoilt text leaves -/
def Spoilt (g B : Nat) (A : Option Addr) (n cp : Nat) (zs : List Int) (t : Nat) (w : World) (e : Ending) (w' : World) : Prop :=
  ∃ x : ByteArray, e = .returned (.string x) ∧ x.size ≤ 1000 ∧ (∃ t', t' ≤ t + 6 ∧ Cur w' g B A n cp zs t') ∧ w.grownBy w' (some g)
theorem ext_le (s : ByteArray) (a b : Nat) : (s.extract a b).size ≤ s.size := by rw [ByteArray.size_extract]; omega
set_option maxHeartbeats 4000000 in
theorem spoilt_any (w : World) (g B : Nat) (A : Option Addr) (n cp : Nat) (zs : List Int) (t : Nat) (hz : ∀ z ∈ zs, 0 ≤ z ∧ z ≤ 255) (hc : Cur w g B A n cp zs t) (ht : t ≤ 800000) (hn : n ≤ 1000000)
    (T X : ByteArray) (hT : T.size ≤ 100) (hX0 : 1 ≤ X.size) (hX : X.size ≤ 100) :
    Calls Tryd.prog 45 #[.pointer (some ⟨g, 0, none⟩), .string T, .string X] w (Spoilt g B A n cp zs t w) := by
  have HC := Lib.hid hc
  have HZ := Lib.hid hz
  clear hc hz
  have hx1 : (1 : Int) ≤ X.size := by omega
  by_cases h0 : T = ⟨#[]⟩
  · have t1 : T.toList.isEmpty = true := by rw [h0, ByteArray.toList_eq]; rfl
    have hxl := ext_le X 0 1
    have HR : Hid (Spoilt g B A n cp zs t w (.returned (.string (X.extract 0 1))) w) := Lib.hid ⟨_, rfl, by omega, ⟨t, by omega, HC.out⟩, World.grownBy.refl _ _⟩
    clear h0 hxl HC
    go_enter Tryd.func45, Tryd.ntmps45
    go_wp2_with fail
    go_ret
    exact HR.out
  · have hd : T.data.toList ≠ [] := fun e => h0 (ByteArray.ext (by apply Array.toList_inj.1; simpa using e))
    have t1 : T.toList.isEmpty = false := by
      rw [ByteArray.toList_eq]
      cases h : T.data.toList with
      | nil => exact absurd h hd
      | cons a b => rfl
    have hT1 : 1 ≤ T.size := by
      rcases Nat.eq_zero_or_pos T.size with h | h
      · exact absurd (ByteArray.ext (Array.eq_empty_of_size_eq_zero h)) h0
      · exact h
    clear h0 hd
    go_enter Tryd.func45, Tryd.ntmps45
    go_wp2_with fail
    refine (pick_any _ g B A n cp zs t HZ.out HC.out (by omega) hn T.size (by omega) (by omega)).mono ?_
    rintro e w1 ⟨x, rfl, hx0, hx1', ⟨t1', ht1, hc1⟩, hg1⟩
    obtain ⟨i, rfl⟩ : ∃ i : Nat, x = i := ⟨x.toNat, by omega⟩
    have HC1 := Lib.hid hc1
    have HG1 := Lib.hid hg1
    clear hc1 hg1 HC
    go_wp2_with fail
    refine (pick_any _ g B A n cp zs t1' HZ.out HC1.out (by omega) hn X.size (by omega) (by omega)).mono ?_
    rintro e w2 ⟨x, rfl, hy0, hy1, ⟨t2, ht2, hc2⟩, hg2⟩
    obtain ⟨j, rfl⟩ : ∃ j : Nat, x = j := ⟨x.toNat, by omega⟩
    have HC2 := Lib.hid hc2
    have HG2 := Lib.hid (grown_trans' HG1.out hg2)
    have hxs : (X.extract j X.size).size = X.size - j := by rw [ByteArray.size_extract]; omega
    have hxs1 : (1 : Int) ≤ (X.extract j X.size).size := by omega
    have hjx : (j : Int) ≤ X.size := by omega
    clear hc2 hg2 HC1 HG1
    go_wp2_with fail
    refine (pick_any _ g B A n cp zs t2 HZ.out HC2.out (by omega) hn 3 (by omega) (by omega)).mono ?_
    rintro e w3 ⟨r, rfl, hr0, hr1, ⟨t3, ht3, hc3⟩, hg3⟩
    have HC3 := Lib.hid hc3
    have HG3 := Lib.hid (grown_trans' HG2.out hg3)
    clear hc3 hg3 HC2 HG2
    have hi : i < T.size := by omega
    have hT63 : (T.size : Int) ≤ 100 := by omega
    obtain ⟨V, hV⟩ : ∃ V, (X.extract j X.size).extract 0 1 = V := ⟨_, rfl⟩
    have hVs : V.size ≤ 100 := by rw [← hV]; have := ext_le (X.extract j X.size) 0 1; omega
    obtain ⟨P1, hP1⟩ : ∃ P1, T.extract 0 i = P1 := ⟨_, rfl⟩
    have hP1s : P1.size ≤ 100 := by rw [← hP1]; have := ext_le T 0 i; omega
    obtain ⟨P2, hP2⟩ : ∃ P2, T.extract i T.size = P2 := ⟨_, rfl⟩
    have hP2s : P2.size ≤ 100 := by rw [← hP2]; have := ext_le T i T.size; omega
    obtain ⟨P3, hP3⟩ : ∃ P3, T.extract (i + 1) T.size = P3 := ⟨_, rfl⟩
    have hP3s : P3.size ≤ 100 := by rw [← hP3]; have := ext_le T (i + 1) T.size; omega
    have hs1 : ∀ wx, (Instr.slice 9 (.string T) none (some (.int .i64 i)) none).run Tryd.prog wx = .ok (.string P1) wx := fun wx => by rw [← hP1]; exact run_slice_string_h wx 9 T Tryd.underlying9 .i64 i (by omega) (by omega)
    have hs2 : ∀ wx, (Instr.slice 9 (.string T) (some (.int .i64 i)) none none).run Tryd.prog wx = .ok (.string P2) wx := fun wx => by rw [← hP2]; exact run_slice_string_l wx 9 T Tryd.underlying9 .i64 i (by omega) (by omega)
    have hs3 : ∀ wx, (Instr.slice 9 (.string T) (some (.int .i64 ((i : Int) + 1))) none none).run Tryd.prog wx = .ok (.string P3) wx := fun wx => by rw [← hP3]; exact run_slice_string_l wx 9 T Tryd.underlying9 .i64 ((i : Int) + 1) (by omega) (by omega)
    have ca := fun wx => run_string_add_sum (P := Tryd.prog) (w := wx) P1 V (by omega)
    have hPV : (P1 ++ V).size ≤ 200 := by rw [ByteArray.size_append]; omega
    have cb := fun wx => run_string_add_sum (P := Tryd.prog) (w := wx) (P1 ++ V) P2 (by omega)
    have cc := fun wx => run_string_add_sum (P := Tryd.prog) (w := wx) (P1 ++ V) P3 (by omega)
    have cd := fun wx => run_string_add_sum (P := Tryd.prog) (w := wx) P1 P3 (by omega)
    have e3 : IntKind.i64.wrap ((i : Int) + 1) = (i : Int) + 1 := IntWalk.i64_in _ (by omega)
    have FIN : Hid (∀ (k : Nat) (x : ByteArray), x.size ≤ 1000 → Spoilt g B A n cp zs t w (.returned (.string x)) (w3.drewN k)) := Lib.hid fun k x hx => ⟨x, rfl, hx, ⟨t3, by omega, (cur_drew ⟨HC3.out, HG3.out⟩).1⟩, (cur_drew ⟨HC3.out, HG3.out⟩).2⟩
    have z1 : (P1 ++ V ++ P2).size ≤ 1000 := by rw [ByteArray.size_append]; omega
    have z2 : (P1 ++ V ++ P3).size ≤ 1000 := by rw [ByteArray.size_append]; omega
    have z3 : (P1 ++ P3).size ≤ 1000 := by rw [ByteArray.size_append]; omega
    clear hP1 hP2 hP3 HC3 HG3
    rcases (show r = 0 ∨ r = 1 ∨ r = 2 by omega) with rfl | rfl | rfl
    · go_wp2_with fail
      go_quiet (fail)
      go_wp2_with fail
      go_ret
      exact FIN.out _ _ z1
    · go_wp2_with fail
      go_quiet (fail)
      go_wp2_with fail
      go_ret
      exact FIN.out _ _ z2
    · go_wp2_with fail
      go_quiet (fail)
      go_wp2_with fail
      go_ret
      exact FIN.out _ _ z3
end Go.Proofs.YtfdbnolifimnhabDoor.Draw
