/- What spec.l1Split answers: the parts of a text between the places at which a byte stands, in a slice of its own. -/
import Derived.Test.YtadpjkghfgnbbaaDoorRows
import Derived.Test.YtadpjkghfgnbbaaDoorL1Pure
import Derived.WalkKit
import Derived.OwnWalk
import Derived.WalkLawsBesides
import Derived.Lib.Hide
import Derived.Maps.AppendAt
import Derived.Outline
namespace Go.Proofs.YtadpjkghfgnbbaaDoor.L1
open Go.RowKit
/-- the parts that are complete behind k bytes, and where the next one begins -/
def cuts (s : ByteArray) (c : UInt8) : Nat → List ByteArray × Nat
  | 0 => ([], 0)
  | k + 1 => if s.data.toList[k]? = some c then ((cuts s c k).1 ++ [s.extract (cuts s c k).2 k], k + 1) else cuts s c k
def Parts (s : ByteArray) (c : UInt8) : List ByteArray := (cuts s c s.size).1 ++ [s.extract (cuts s c s.size).2 s.size]
theorem cuts_hit (s : ByteArray) (c : UInt8) (k : Nat) (h : k < s.size) (he : s[k] = c) : cuts s c (k + 1) = ((cuts s c k).1 ++ [s.extract (cuts s c k).2 k], k + 1) := by
  have : s.data.toList[k]? = some c := by rw [← he]; simp [ByteArray.getElem_eq_getElem_data]
  rw [cuts, if_pos this]
theorem cuts_miss (s : ByteArray) (c : UInt8) (k : Nat) (h : k < s.size) (he : s[k] ≠ c) : cuts s c (k + 1) = cuts s c k := by
  have : ¬ s.data.toList[k]? = some c := by
    intro h2
    apply he
    have h3 : s.data.toList[k]? = some s[k] := by simp [ByteArray.getElem_eq_getElem_data]
    rw [h3] at h2
    exact Option.some.inj h2
  rw [cuts, if_neg this]
theorem cuts_le (s : ByteArray) (c : UInt8) (k : Nat) : (cuts s c k).2 ≤ k ∧ (cuts s c k).1.length ≤ k := by
  induction k with
  | zero => exact ⟨Nat.le_refl _, Nat.le_refl _⟩
  | succ k ih =>
    rw [cuts]
    split
    · simp; omega
    · omega
theorem strInfo : (Tryd.prog.info? 9).map (fun i => (i.zero, i.size, i.bytes)) = some (some (.string ByteArray.empty), 1, 16) := by kernel_rfl
set_option maxHeartbeats 1000000 in
theorem l1Split_any (s : ByteArray) (c : UInt8) (n : Int) (hn : n = c.toNat) (w : World) (hs : s.size ≤ 1048576) :
    Calls Tryd.prog 21 #[.string s, .int .u8 n] w fun e w' => ∃ v, e = .returned v ∧ w'.ownsRow w.heap.size 9 1 v (Parts s c).length ((Parts s c).map Value.string) ∧ Below w.heap.size w w' := by
  obtain ⟨i0, hi, hz0, hz1, hz2⟩ := info_parts strInfo
  have HN := Lib.hid hn
  clear hn
  go_enter Tryd.func21, Tryd.ntmps21
  go_wp2_with fail
  have hown0 : (w.alloc (.cells #[] 9)).ownsRow w.heap.size 9 1 (.slice (some ⟨w.heap.size, 0, none⟩) 0 0) 0 [] :=
    World.ownsRow_made w #[] 0 (Nat.le_refl _) (Nat.zero_le _) rfl
  have hbel0 : Below w.heap.size w (w.alloc (.cells #[] 9)) := (Below.refl _ _).alloc (Nat.le_refl _) _
  go_loopw [5, 6, 7] (fun v f i wr => ∃ (k fr : Nat) (d : List ByteArray), i = .int .i64 k ∧ f = .int .i64 fr ∧ k ≤ s.size ∧ fr ≤ k ∧ d.length ≤ k ∧ Hid (cuts s c k = (d, fr)) ∧ wr.ownsRow w.heap.size 9 1 v d.length (d.map Value.string) ∧ Below w.heap.size w wr) (fun _ _ i _ => s.size - (intOf i).toNat)
  case atStart => exact ⟨0, 0, [], rfl, rfl, Nat.zero_le _, Nat.le_refl _, Nat.le_refl _, Lib.hid rfl, hown0, hbel0⟩
  case round =>
    clear hown0 hbel0
    obtain ⟨k, fr, d, rfl, rfl, hk, hf, hd, HC, hown, hbel⟩ := hrel
    by_cases hlt : k < s.size
    · by_cases he : s[k] = c
      · have t1 : ((s[k].toNat : Int) == n) = true := by rw [HN.out, he]; simp
        have hcut := cuts_hit s c k hlt he
        rw [HC.out] at hcut
        have HC2 := Lib.hid hcut
        clear he hcut
        have hsz := hbel.size
        go_wp2_with (at_builtin; refine wpList_append_own _ rfl _ _ 43 rfl w.heap.size 9 i0 (.string ByteArray.empty) 1 16 Tryd.underlying43 hi hz0 hz1 hz2 rfl (by decide) _ _ _ rfl (hown.alloc _) ⟨wr.heap.size, 0, none⟩ 1 1 [.string (s.extract fr k)] rfl rfl (cell_one_new _ _ _) (fun x hx => by simp at hx; subst hx; rfl) (by unfold maxLen; omega) (by omega) (by simp; omega) ?_; intro v' w1 hown1 hgrow1 _)
        have hbel1 : Below w.heap.size w w1 := (hbel.alloc hsz _).grown hgrow1 (by simp; omega) (fun q hq => (hown.lt q hq).1)
        go_roundw
        case rel => exact ⟨k + 1, k + 1, d ++ [s.extract fr k], by go_num, by go_num, by omega, by omega, by simp; omega, HC2, by simpa using hown1, hbel1⟩
        case measure => simp [intOf]; omega
      · have t1 : ((s[k].toNat : Int) == n) = false := by
          rw [HN.out]
          simp only [beq_eq_false_iff_ne, ne_eq, Int.natCast_inj]
          intro h; exact he (UInt8.toNat_inj.1 h)
        have hcut := cuts_miss s c k hlt he
        rw [HC.out] at hcut
        have HC2 := Lib.hid hcut
        clear he hcut
        go_wp2
        go_roundw
        case rel => exact ⟨k + 1, fr, d, by go_num, rfl, by omega, by omega, by omega, HC2, hown, hbel⟩
        case measure => simp [intOf]; omega
    · have hks : k = s.size := by omega
      have hparts : Parts s c = d ++ [s.extract fr s.size] := by
        unfold Parts
        rw [← hks, HC.out]
      have HP := Lib.hid hparts
      clear hparts hks
      have hsz := hbel.size
      go_wp2_with (at_builtin; refine wpList_append_own _ rfl _ _ 43 rfl w.heap.size 9 i0 (.string ByteArray.empty) 1 16 Tryd.underlying43 hi hz0 hz1 hz2 rfl (by decide) _ _ _ rfl (hown.alloc _) ⟨wr.heap.size, 0, none⟩ 1 1 [.string (s.extract fr s.size)] rfl rfl (cell_one_new _ _ _) (fun x hx => by simp at hx; subst hx; rfl) (by unfold maxLen; omega) (by omega) (by simp; omega) ?_; intro v' w1 hown1 hgrow1 _)
      have hbel1 : Below w.heap.size w w1 := (hbel.alloc hsz _).grown hgrow1 (by simp; omega) (fun q hq => (hown.lt q hq).1)
      go_ret
      exact ⟨v', rfl, by rw [HP.out]; simpa using hown1, hbel1⟩
end Go.Proofs.YtadpjkghfgnbbaaDoor.L1
