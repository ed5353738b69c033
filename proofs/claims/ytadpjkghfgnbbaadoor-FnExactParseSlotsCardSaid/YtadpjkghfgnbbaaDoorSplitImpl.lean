/- What impl.partsOf hands back: an iterator over the parts of a text. -/
import Derived.Test.YtadpjkghfgnbbaaDoorSplit
import Derived.RangeFuncBox
import Derived.RangeFuncLeaves
import Derived.Shelf.Abstract
import Derived.Shelf.RegionOpen
import Derived.OwnWalkIn
import Derived.TacticsInMore
import Derived.LoopNIn
import Derived.LoopIn
import Derived.RegionIn
namespace Go.Proofs.YtadpjkghfgnbbaaDoor.L1
open Go.RowKit Go.Shelf
attribute [local go_sem] Oper.semAt_some
theorem cuts_prefix (s : ByteArray) (c : UInt8) (k : Nat) : ∀ d, (cuts s c k).1 <+: (cuts s c (k + d)).1
  | 0 => List.prefix_refl _
  | d + 1 => by
    refine (cuts_prefix s c k d).trans ?_
    rw [show k + (d + 1) = (k + d) + 1 from by omega, cuts]
    split
    · exact List.prefix_append _ _
    · exact List.prefix_refl _
theorem cuts_parts (s : ByteArray) (c : UInt8) (k : Nat) (h : k ≤ s.size) : (cuts s c k).1 <+: Parts s c ∧ (cuts s c k).1.length < (Parts s c).length := by
  obtain ⟨d, hd⟩ : ∃ d, s.size = k + d := ⟨s.size - k, by omega⟩
  have hp := cuts_prefix s c k d
  rw [← hd] at hp
  have hl := hp.length_le
  exact ⟨hp.trans (List.prefix_append _ _), by unfold Parts; rw [List.length_append]; simp; omega⟩
/-- what lies in two boxes lies there still -/
def Keep2 (Bs Bc : Nat) (W W' : World) : Prop := (∀ v, W.cell? ⟨Bs, 0, none⟩ = some v → W'.cell? ⟨Bs, 0, none⟩ = some v) ∧ (∀ v, W.cell? ⟨Bc, 0, none⟩ = some v → W'.cell? ⟨Bc, 0, none⟩ = some v) ∧ W.heap.size ≤ W'.heap.size
set_option maxRecDepth 100000 in
set_option maxHeartbeats 1000000 in
theorem parts1_in (F : Fence) (n : Nat) (h6 : F.fn 47) (hro : F.round = none) (hn : 1 ≤ n) (l Bs Bc : Nat) (s : ByteArray) (c : UInt8) (hs : s.size ≤ 1048576) (J Jx : List ByteArray → World → Prop) (W0 : World) (hJ : AbidesFrom W0.heap.size J)
    (hY : ∀ pre x W, J pre W → pre.length < (Parts s c).length → YieldAt F (n - 1) Tryd.prog l #[.string x] W fun e W' =>
      (e = .returned (.bool true) ∧ J (pre ++ [x]) W' ∧ Keep2 Bs Bc W W') ∨ (e = .returned (.bool false) ∧ Jx (pre ++ [x]) W'))
    (W : World) (hW0 : W0.heap.size ≤ W.heap.size) (hS : W.cell? ⟨Bs, 0, none⟩ = some (.string s)) (hC : W.cell? ⟨Bc, 0, none⟩ = some (.int .u8 c.toNat)) (h0 : J [] W) :
    CallsIn F n Tryd.prog 47 #[.func (.yield l) #[] #[], .pointer (some ⟨Bs, 0, none⟩), .pointer (some ⟨Bc, 0, none⟩)] W fun e W' => (∃ v, e = .returned v) ∧
      ((∃ ys, ys = Parts s c ∧ J ys W') ∨ (∃ pre, pre <+: Parts s c ∧ Jx pre W')) := by
  refine callsIn_of_wp Tryd.func47 rfl h6 ?_ hro
  simp only [Tryd.ntmps47, List.size_toArray, List.length_cons, List.length_nil, Nat.reduceAdd, Nat.reduceSub, Array.replicate_succ, Array.replicate_zero, List.push_toArray, List.append_toArray, List.nil_append, List.cons_append]
  gi_wp2
  gi_loopw [4, 5, 8] (fun f _ i wr => ∃ (k fr : Nat) (pre : List ByteArray), i = .int .i64 k ∧ f = .int .i64 fr ∧ k ≤ s.size ∧ fr ≤ k ∧ Hid (cuts s c k = (pre, fr)) ∧ J pre wr ∧ wr.cell? ⟨Bs, 0, none⟩ = some (.string s) ∧ wr.cell? ⟨Bc, 0, none⟩ = some (.int .u8 c.toNat) ∧ W0.heap.size ≤ wr.heap.size)
    (fun _ _ i _ => s.size - (intOf i).toNat)
  case atStart => exact ⟨0, 0, [], rfl, rfl, Nat.zero_le _, Nat.le_refl _, Lib.hid rfl, h0, hS, hC, hW0⟩
  case round =>
    clear h0 hS hC
    obtain ⟨k, fr, pre, rfl, rfl, hk, hf, HC, hJs, hS, hC, hWr⟩ := hrel
    by_cases hlt : k < s.size
    · by_cases he : s[k] = c
      · have t1 : ((s[k].toNat : Int) == c.toNat) = true := by rw [he]; simp
        have t2 : ((s[k].toNat : Int) != c.toNat) = false := by simp only [bne, t1, Bool.not_true]
        have hcut := cuts_hit s c k hlt he
        rw [HC.out] at hcut
        have HC2 := Lib.hid hcut
        clear he hcut
        have hlen : pre.length < (Parts s c).length := by have := (cuts_parts s c k (by omega)).2; rwa [HC.out] at this
        have hpre : pre ++ [s.extract fr k] <+: Parts s c := by have := (cuts_parts s c (k + 1) (by omega)).1; rwa [HC2.out] at this
        have hJ1 : J pre wr.drew := hJ pre wr wr.drew none hJs ⟨rfl, rfl, rfl, Nat.le_refl _, fun _ _ _ => rfl⟩ (fun r e => by cases e)
        obtain ⟨fn, tmps, assign, body, hy, hR⟩ := hY pre (s.extract fr k) wr.drew hJ1 hlen
        gi_wp2
        gi_region
        all_goals gi_wp2
        all_goals
          refine hR.mono ?_
          rintro e W3 (⟨rfl, hJ3, hk3⟩ | ⟨rfl, hJx3⟩)
          · have hS3 : W3.cell? ⟨Bs, 0, none⟩ = some (.string s) := hk3.1 _ hS
            have hC3 : W3.cell? ⟨Bc, 0, none⟩ = some (.int .u8 c.toNat) := hk3.2.1 _ hC
            have hW3 : W0.heap.size ≤ W3.heap.size := Nat.le_trans hWr hk3.2.2
            gi_wp2
            go_roundw
            case rel => exact ⟨k + 1, k + 1, pre ++ [s.extract fr k], by go_num, by go_num, by omega, by omega, HC2, hJ3, hS3, hC3, hW3⟩
            case measure => simp [intOf]; omega
          · gi_wp2
            refine bodyPost_ret (results_none rfl _ _ _) rfl ?_
            exact ⟨⟨_, rfl⟩, .inr ⟨pre ++ [s.extract fr k], hpre, hJx3⟩⟩
      · have t1 : ((s[k].toNat : Int) == c.toNat) = false := by
          simp only [beq_eq_false_iff_ne, ne_eq, Int.natCast_inj]
          intro h; exact he (UInt8.toNat_inj.1 h)
        have t2 : ((s[k].toNat : Int) != c.toNat) = true := by simp only [bne, t1, Bool.not_false]
        have hcut := cuts_miss s c k hlt he
        rw [HC.out] at hcut
        have HC2 := Lib.hid hcut
        clear he hcut
        have hJ1 : J pre wr.drew := hJ pre wr wr.drew none hJs ⟨rfl, rfl, rfl, Nat.le_refl _, fun _ _ _ => rfl⟩ (fun r e => by cases e)
        gi_wp2
        gi_region
        all_goals gi_wp2
        all_goals
          go_roundw
          case rel => exact ⟨k + 1, fr, pre, by go_num, rfl, by omega, by omega, HC2, hJ1, hS, hC, hWr⟩
          case measure => simp [intOf]; omega
    · have hks : k = s.size := by omega
      have hparts : Parts s c = pre ++ [s.extract fr s.size] := by
        unfold Parts
        rw [← hks, HC.out]
      have HP := Lib.hid hparts
      have hlen : pre.length < (Parts s c).length := by rw [hparts]; simp
      obtain ⟨fn, tmps, assign, body, hy, hR⟩ := hY pre (s.extract fr s.size) wr hJs hlen
      clear hparts hks hlen
      gi_wp2
      refine hR.mono ?_
      rintro e W3 (⟨rfl, hJ3, hk3⟩ | ⟨rfl, hJx3⟩)
      · gi_wp2
        go_end0
        exact ⟨⟨_, rfl⟩, .inl ⟨_, HP.out.symm, hJ3⟩⟩
      · gi_wp2
        go_end0
        exact ⟨⟨_, rfl⟩, .inr ⟨_, by rw [HP.out]; exact List.prefix_refl _, hJx3⟩⟩
end Go.Proofs.YtadpjkghfgnbbaaDoor.L1
