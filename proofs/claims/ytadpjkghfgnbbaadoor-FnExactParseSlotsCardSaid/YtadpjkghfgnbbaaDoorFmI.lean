/- What FormatInt of impl answers: the decimal numeral of what lies in -999999 .. 999999. -/
import Derived.Test.YtadpjkghfgnbbaaDoorNum
import Derived.Test.YtadpjkghfgnbbaaDoorShelf
import Derived.Below
namespace Go.Proofs.YtadpjkghfgnbbaaDoor.L1
open Go.RowKit Go.Sort
theorem below_drewN' (w : World) (n : Nat) : Below w.heap.size w (w.drewN n) := ⟨rfl, rfl, rfl, Nat.le_refl _, fun _ _ => rfl⟩
theorem below_grow (w : World) (n : Nat) (os : Array Obj) : Below w.heap.size w (grow (w.drewN n) os) :=
  ⟨rfl, rfl, rfl, by simp [grow, World.drewN], fun k hk => by simp [grow, World.drewN, Array.getElem?_append, hk]⟩
theorem implFmt_no (n : Int) (h : n < -999999 ∨ 999999 < n) (w : World) :
    Calls Tryd.prog 32 #[.int .i64 n] w fun e w' => e = .returned (.tuple #[.string ByteArray.empty, .bool false]) ∧ w = w' := by
  rcases h with h | h
  all_goals
    go_enter Tryd.func32, Tryd.ntmps32
    go_wp2
    go_ret2
    exact ⟨rfl, rfl⟩
theorem implFmt_yes (n : Int) (h0 : -999999 ≤ n) (h1 : n ≤ 999999) (w : World) (htab : Lib.TabIs Tryd.prog w "internal/strconv.uint64pow10" .u64 Lib.pow10Tab) :
    Calls Tryd.prog 32 #[.int .i64 n] w fun e w' => e = .returned (.tuple #[.string (NumB n), .bool true]) ∧ Below w.heap.size w w' := by
  have HT := Lib.hid htab
  clear htab
  go_enter Tryd.func32, Tryd.ntmps32
  go_wp2_with (go_at_call 44; ((with_reducible refine (Tryd.strconv_Itoa n (by omega) (by omega) _ HT.out).mono ?_); rintro e w1 ⟨rfl, k, os, rfl⟩))
  go_ret2
  exact ⟨rfl, below_grow _ _ _⟩
end Go.Proofs.YtadpjkghfgnbbaaDoor.L1
