/- What FormatInt answers, in spec and in impl: the decimal numeral of what lies in -999999 .. 999999. -/
import Derived.Test.YtiieccpfnffcpaaDoorNum
import Derived.Test.YtiieccpfnffcpaaDoorIn
import Derived.Test.YtiieccpfnffcpaaDoorShelf
import Derived.Below
namespace Go.Proofs.YtiieccpfnffcpaaDoor.L1
open Go.RowKit Go.Sort
theorem below_drewN' (w : World) (n : Nat) : Below w.heap.size w (w.drewN n) := ⟨rfl, rfl, rfl, Nat.le_refl _, fun _ _ => rfl⟩
theorem below_grow (w : World) (n : Nat) (os : Array Obj) : Below w.heap.size w (grow (w.drewN n) os) :=
  ⟨rfl, rfl, rfl, by simp [grow, World.drewN], fun k hk => by simp [grow, World.drewN, Array.getElem?_append, hk]⟩
theorem specFmt_no (n : Int) (h : n < -999999 ∨ 999999 < n) (w : World) :
    Calls Tryd.prog 11 #[.int .i64 n] w fun e w' => e = .returned (.tuple #[.string ByteArray.empty, .bool false]) ∧ w = w' := by
  go_enter Tryd.func11, Tryd.ntmps11
  go_wp2_with (go_at_call 24; ((with_reducible refine (l1In_no n _ _ h _).mono ?_); rintro e w1 ⟨rfl, rfl⟩))
  go_ret2
  exact ⟨rfl, rfl⟩
theorem implFmt_no (n : Int) (h : n < -999999 ∨ 999999 < n) (w : World) :
    Calls Tryd.prog 10 #[.int .i64 n] w fun e w' => e = .returned (.tuple #[.string ByteArray.empty, .bool false]) ∧ w = w' := by
  rcases h with h | h
  all_goals
    go_enter Tryd.func10, Tryd.ntmps10
    go_wp2
    go_ret2
    exact ⟨rfl, rfl⟩
theorem specFmt_yes (n : Int) (h0 : -999999 ≤ n) (h1 : n ≤ 999999) (w : World) :
    Calls Tryd.prog 11 #[.int .i64 n] w fun e w' => e = .returned (.tuple #[.string (NumB n), .bool true]) ∧ Below w.heap.size w w' := by
  go_enter Tryd.func11, Tryd.ntmps11
  go_wp2_with (first | (go_at_call 25; ((with_reducible refine (l1Num_int n (by omega) (by omega) _).mono ?_); rintro e w1 ⟨rfl, j, rfl⟩)) | (go_at_call 24; ((with_reducible refine (l1In_yes n _ _ h0 h1 _).mono ?_); rintro e w1 ⟨rfl, rfl⟩)))
  go_ret2
  exact ⟨rfl, below_drewN' _ _⟩
theorem implFmt_yes (n : Int) (h0 : -999999 ≤ n) (h1 : n ≤ 999999) (w : World) (htab : Lib.TabIs Tryd.prog w "internal/strconv.uint64pow10" .u64 Lib.pow10Tab) :
    Calls Tryd.prog 10 #[.int .i64 n] w fun e w' => e = .returned (.tuple #[.string (NumB n), .bool true]) ∧ Below w.heap.size w w' := by
  have HT := Lib.hid htab
  clear htab
  go_enter Tryd.func10, Tryd.ntmps10
  go_wp2_with (go_at_call 23; ((with_reducible refine (Tryd.strconv_Itoa n (by omega) (by omega) _ HT.out).mono ?_); rintro e w1 ⟨rfl, k, os, rfl⟩))
  go_ret2
  exact ⟨rfl, below_grow _ _ _⟩
end Go.Proofs.YtiieccpfnffcpaaDoor.L1
