/- What spec.l1Num answers: the decimal numeral; the world only draws. -/
import Derived.Test.YtadpjkghfgnbbaaDoorRows
import Derived.WalkKit
import Derived.Lib.Hide
import Derived.Lib.ItoaNum
import Derived.Lib.ItoaLen
import Derived.Deep.QuietTactic
import Derived.BigQuiet
import Derived.IntWalk
import Derived.WalkSpells
import Derived.Outline
namespace Go.Proofs.YtadpjkghfgnbbaaDoor.L1
open Go.RowKit
def NumIs (l : List UInt8) (w : World) (e : Ending) (w' : World) : Prop := e = .returned (.string ⟨l.toArray⟩) ∧ ∃ m, w' = w.drewN m
theorem dig_fin : ∀ i : Fin 10, (({ data := #[48, 49, 50, 51, 52, 53, 54, 55, 56, 57] } : ByteArray).extract i.val (i.val + 1)).data = #[UInt8.ofNat (48 + i.val)] := by decide +kernel
theorem dig_ext (m : Nat) (h : m < 10) : ({ data := #[48, 49, 50, 51, 52, 53, 54, 55, 56, 57] } : ByteArray).extract m (m + 1) = ⟨#[UInt8.ofNat (48 + m)]⟩ :=
  ByteArray.ext (dig_fin ⟨m, h⟩)
theorem num_base {m : Nat} (h : m < 10) (w : World) : NumIs (Lib.decDigits m) w (.returned (.string (({ data := #[48, 49, 50, 51, 52, 53, 54, 55, 56, 57] } : ByteArray).extract m (m + 1)))) w :=
  ⟨by rw [Lib.decDigits_one h, dig_ext m h], 0, rfl⟩
theorem num_step {m : Nat} (h : ¬ m < 10) (w : World) (n : Nat) :
    NumIs (Lib.decDigits m) w (.returned (.string ((⟨(Lib.decDigits (m / 10)).toArray⟩ : ByteArray) ++ ({ data := #[48, 49, 50, 51, 52, 53, 54, 55, 56, 57] } : ByteArray).extract (m % 10) (m % 10 + 1)))) (w.drewN n) := by
  refine ⟨?_, n, rfl⟩
  rw [dig_ext _ (Nat.mod_lt _ (by omega)), Lib.decDigits.eq_1 m, dif_neg h]
  congr 2
theorem cat_room (m : Nat) (h : m ≤ 99999999999) : (⟨(Lib.decDigits (m / 10)).toArray⟩ : ByteArray).size + (({ data := #[48, 49, 50, 51, 52, 53, 54, 55, 56, 57] } : ByteArray).extract (m % 10) (m % 10 + 1)).size ≤ 9223372036854775807 := by
  rw [dig_ext _ (Nat.mod_lt _ (by omega))]
  have h1 : (⟨(Lib.decDigits (m / 10)).toArray⟩ : ByteArray).size = Lib.nDigits (m / 10) := by rw [← Lib.decDigits_length]; simp [ByteArray.size]
  have h2 := Lib.nDigits_le20 (m / 10) (by omega)
  have h3 : (⟨#[UInt8.ofNat (48 + m % 10)]⟩ : ByteArray).size = 1 := rfl
  omega
set_option maxHeartbeats 400000 in
theorem l1Num_base (m : Nat) (h : m < 10) (w : World) : Calls Tryd.prog 29 #[.int .i64 m] w (NumIs (Lib.decDigits m) w) := by
  go_enter Tryd.func29, Tryd.ntmps29
  go_wp2_with fail
  go_ret
  exact num_base h w
set_option maxHeartbeats 400000 in
theorem l1Num_step (m : Nat) (h : ¬ m < 10) (hm : m ≤ 99999999999)
    (ihm : ∀ w, Calls Tryd.prog 29 #[.int .i64 (↑m / 10)] w fun e w' => e = .returned (.string ⟨(Lib.decDigits (m / 10)).toArray⟩) ∧ ∃ j, w' = w.drewN j) (w : World) :
    Calls Tryd.prog 29 #[.int .i64 m] w (NumIs (Lib.decDigits m) w) := by
  have b0 : (0 : Int) ≤ ↑m / 10 := by omega
  have b1 : (0 : Int) ≤ ↑m % 10 := by omega
  have b2 : (↑m : Int) % 10 + 1 ≤ 10 := by omega
  have b3 : (0 : Int) ≤ ↑m % 10 + 1 := by omega
  have b4 : ((↑m : Int) % 10).toNat = m % 10 := by omega
  have b5 : ((↑m : Int) % 10 + 1).toNat = m % 10 + 1 := by omega
  go_enter Tryd.func29, Tryd.ntmps29
  go_wp2_with fail
  have e1 : IntKind.i64.wrap (↑m / 10) = ↑m / 10 := IntWalk.i64_in _ (by omega)
  have e2 : (↑m : Int).tmod 10 = ↑m % 10 := Int.tmod_eq_emod_of_nonneg (by omega)
  have e3 : IntKind.i64.wrap (↑m % 10 + 1) = ↑m % 10 + 1 := IntWalk.i64_in _ (by omega)
  have hsl := fun wx => run_slice_string (P := Tryd.prog) (w := wx) 9 { data := #[48, 49, 50, 51, 52, 53, 54, 55, 56, 57] } .i64 .i64 (↑m % 10) (↑m % 10 + 1) Tryd.underlying9 b1 (by omega) (by show (↑m : Int) % 10 + 1 ≤ 10; omega)
  rw [b4, b5] at hsl
  have hcat := fun wx => run_string_add_sum (P := Tryd.prog) (w := wx) ⟨(Lib.decDigits (m / 10)).toArray⟩ (({ data := #[48, 49, 50, 51, 52, 53, 54, 55, 56, 57] } : ByteArray).extract (m % 10) (m % 10 + 1)) (cat_room m hm)
  go_quiet ((go_at_call 29; (with_reducible refine Calls.quiet_of (ihm _))))
  clear e1 e2 e3 hsl hcat
  go_wp2_with fail
  go_ret
  exact num_step h w _
theorem l1Num_any : ∀ (m : Nat), m ≤ 99999999999 → ∀ w, Calls Tryd.prog 29 #[.int .i64 m] w fun e w' => e = .returned (.string ⟨(Lib.decDigits m).toArray⟩) ∧ ∃ j, w' = w.drewN j := by
  intro m
  induction m using Nat.strongRecOn with
  | _ m ih =>
    intro hm w
    by_cases h : m < 10
    · exact l1Num_base m h w
    · refine l1Num_step m h hm (fun w => ?_) w
      have := ih (m / 10) (by omega) (by omega) w
      exact this
/-- the text of a number, with its sign -/
def NumB (n : Int) : ByteArray := ⟨(Lib.itoa n).toArray⟩
theorem num_neg {n : Int} (h : n < 0) (w w1 : World) (hb : ∃ j, w1 = w.drewN j) :
    NumIs (Lib.itoa n) w (.returned (.string (({ data := #[45] } : ByteArray) ++ ⟨(Lib.decDigits (-n).toNat).toArray⟩))) w1 := by
  refine ⟨?_, hb⟩
  have e : (-n).toNat = n.natAbs := by omega
  rw [Lib.itoa, if_pos h, e]
  congr 2
theorem neg_room (n : Int) (h : n < 0) (hm : -99999999999 ≤ n) : (({ data := #[45] } : ByteArray)).size + (⟨(Lib.decDigits (-n).toNat).toArray⟩ : ByteArray).size ≤ 9223372036854775807 := by
  have h1 : (⟨(Lib.decDigits (-n).toNat).toArray⟩ : ByteArray).size = Lib.nDigits (-n).toNat := by rw [← Lib.decDigits_length]; simp [ByteArray.size]
  have h2 := Lib.nDigits_le20 (-n).toNat (by omega)
  have h3 : ({ data := #[45] } : ByteArray).size = 1 := rfl
  omega
set_option maxHeartbeats 400000 in
theorem l1Num_neg (n : Int) (h : n < 0) (hm : -99999999999 ≤ n) (w : World) : Calls Tryd.prog 29 #[.int .i64 n] w (NumIs (Lib.itoa n) w) := by
  have hb1 : -n ≤ 99999999999 := by omega
  have hb2 : 0 < -n := by omega
  have hcat := fun wx => run_string_add_sum (P := Tryd.prog) (w := wx) ({ data := #[45] } : ByteArray) ⟨(Lib.decDigits (-n).toNat).toArray⟩ (neg_room n h hm)
  have hc : ∀ w, Calls Tryd.prog 29 #[.int .i64 (-n)] w fun e w' => e = .returned (.string ⟨(Lib.decDigits (-n).toNat).toArray⟩) ∧ ∃ j, w' = w.drewN j := by
    intro w
    have := l1Num_any (-n).toNat (by omega) w
    rwa [show (((-n).toNat : Nat) : Int) = -n from by omega] at this
  go_enter Tryd.func29, Tryd.ntmps29
  go_wp2_with (go_at_call 29; ((with_reducible refine (hc _).mono ?_); rintro e w1 ⟨rfl, hb⟩; have HB := Lib.hid hb; clear hb))
  go_ret
  exact num_neg h w w1 HB.out
theorem l1Num_int (n : Int) (h0 : -99999999999 ≤ n) (h1 : n ≤ 99999999999) (w : World) : Calls Tryd.prog 29 #[.int .i64 n] w fun e w' => e = .returned (.string (NumB n)) ∧ ∃ j, w' = w.drewN j := by
  by_cases h : n < 0
  · exact l1Num_neg n h h0 w
  · have := l1Num_any n.toNat (by omega) w
    rw [show ((n.toNat : Nat) : Int) = n from by omega] at this
    unfold NumB
    rw [Lib.itoa, if_neg h]
    exact this
end Go.Proofs.YtadpjkghfgnbbaaDoor.L1
