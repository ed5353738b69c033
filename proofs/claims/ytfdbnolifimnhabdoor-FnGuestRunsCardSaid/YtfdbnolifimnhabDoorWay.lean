/- What impl.waysFrom answers. -/
import Derived.Test.YtfdbnolifimnhabDoorRows
import Derived.Test.YtfdbnolifimnhabDoorInsE
import Derived.Test.YtfdbnolifimnhabDoorL3
import Derived.Deep.Cut
import Derived.Test.YtfdbnolifimnhabDoorBlk
namespace Go.Proofs.YtfdbnolifimnhabDoor.L3
open Go Go.RowKit Go.Proofs.YtfdbnolifimnhabDoor.Mem Go.Proofs.YtfdbnolifimnhabDoor.Own
/-- fresh numbers at a block of the call's own -/
def WayPost (w : World) (W : List Int) (e : Ending) (w' : World) : Prop :=
  ∃ g, e = .returned (.slice (some ⟨g, 0, none⟩) W.length W.length) ∧ Blk w' g 3 (I W).toArray ∧ Below w.heap.size w w'
theorem way_nil (xa xb xn : Int) (k : Nat) (w : World) :
    Calls Tryd.prog 61 #[.agg #[.int .i64 0, .int .i64 xa, .int .i64 xb, .int .i64 xn], .int .i64 k] w fun e w' => e = .returned (.slice none 0 0) ∧ Below w.heap.size w w' := by
  have hB := Blk.new w #[.int .i64 0, .int .i64 xa, .int .i64 xb, .int .i64 xn] 25
  obtain ⟨wa, hwa⟩ : ∃ wa, w.alloc (.cells #[.int .i64 0, .int .i64 xa, .int .i64 xb, .int .i64 xn] 25) = wa := ⟨_, rfl⟩
  have hb : Below w.heap.size w wa := by rw [← hwa]; exact below_more (Below.refl _ _) _
  rw [hwa] at hB
  have HWA := Lib.hid hwa
  have k0 := hB.cell 0 _ rfl
  clear hwa hB
  go_enter Tryd.func61, Tryd.ntmps61
  go_upto_region 1 with fail
  rw [HWA.out]
  clear HWA
  go_wp2_with fail
  go_ret
  exact ⟨rfl, hb⟩
theorem way_some (op xa xb xn : Int) (k : Nat) (hk : (k : Int) < 64) (W : List Int) (h0 : op ≠ 0) (hW : (if op = 7 then [xn] else if op = 8 then [(k : Int) + 1, xn] else [(k : Int) + 1]) = W) (w : World) :
    Calls Tryd.prog 61 #[.agg #[.int .i64 op, .int .i64 xa, .int .i64 xb, .int .i64 xn], .int .i64 k] w (WayPost w W) := by
  have hB := Blk.new w #[.int .i64 op, .int .i64 xa, .int .i64 xb, .int .i64 xn] 25
  obtain ⟨wa, hwa⟩ : ∃ wa, w.alloc (.cells #[.int .i64 op, .int .i64 xa, .int .i64 xb, .int .i64 xn] 25) = wa := ⟨_, rfl⟩
  have hb : Below w.heap.size w wa := by rw [← hwa]; exact below_more (Below.refl _ _) _
  rw [hwa] at hB
  have HWA := Lib.hid hwa
  have HB := Lib.hid hb
  have k0 := hB.cell 0 _ rfl
  have k3 := hB.cell 3 _ rfl
  have e0 : (op == 0) = false := by simpa using h0
  clear hwa hB hb h0
  by_cases h7 : op = 7
  · subst h7
    rw [if_pos rfl] at hW
    subst hW
    go_enter Tryd.func61, Tryd.ntmps61
    go_upto_region 1 with fail
    rw [HWA.out]
    clear HWA
    go_wp2_with fail
    go_ret
    exact ⟨_, rfl, Blk.new _ _ _, below_more HB.out _⟩
  · have e7 : (op == 7) = false := by simpa using h7
    rw [if_neg h7] at hW
    clear h7
    by_cases h8 : op = 8
    · subst h8
      rw [if_pos rfl] at hW
      subst hW
      go_enter Tryd.func61, Tryd.ntmps61
      go_upto_region 1 with fail
      rw [HWA.out]
      clear HWA
      go_wp2_with fail
      go_ret
      exact ⟨_, rfl, Blk.new _ _ _, below_more HB.out _⟩
    · have e8 : (op == 8) = false := by simpa using h8
      rw [if_neg h8] at hW
      subst hW
      clear h8
      go_enter Tryd.func61, Tryd.ntmps61
      go_upto_region 1 with fail
      rw [HWA.out]
      clear HWA
      go_wp2_with fail
      go_ret
      exact ⟨_, rfl, Blk.new _ _ _, below_more HB.out _⟩
end Go.Proofs.YtfdbnolifimnhabDoor.L3
