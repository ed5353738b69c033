/- What impl.ReadyIrqs answers. -/
import Derived.Test.YtclnhdjnmfkeaaaRdS
import Derived.Test.YtclnhdjnmfkeaaaDstI
import Derived.Deep.Cut
import Derived.Laws.AppendOwnNone
namespace Go.Proofs.Ytclnhdjnmfkeaaa.L6
open Go Go.RowKit Go.Proofs.Ytclnhdjnmfkeaaa.Mem Go.Proofs.Ytclnhdjnmfkeaaa.Own
/-- the answer of a call that hands back places of its own -/
def NatPost (w : World) (l : List Nat) (b : Bool) (e : Ending) (w' : World) : Prop :=
  ∃ A' c', e = .returned (.tuple #[.slice A' l.length c', .bool b]) ∧ w'.ownsRow w.heap.size 3 1 (.slice A' l.length c') l.length (I (ints l)) ∧ Below w.heap.size w w'
theorem rdAns_no {xs : List Irq} {cpu : Int} {l : List Nat} {b : Bool} (h : rdAns xs cpu = (l, b)) (hn : ¬ (OkL xs ∧ (0 ≤ cpu ∧ cpu < 4))) : l = [] ∧ b = false := by
  unfold rdAns at h
  rw [if_neg hn] at h
  exact ⟨(congrArg Prod.fst h).symm, (congrArg Prod.snd h).symm⟩
theorem rdAns_yes {xs : List Irq} {cpu : Int} {l : List Nat} {b : Bool} (h : rdAns xs cpu = (l, b)) (ho : OkL xs) (hk : 0 ≤ cpu ∧ cpu < 4) : l = rdy xs cpu 8 ∧ b = true := by
  unfold rdAns at h
  rw [if_pos ⟨ho, hk⟩] at h
  exact ⟨(congrArg Prod.fst h).symm, (congrArg Prod.snd h).symm⟩
theorem rdy_len_eq (xs : List Irq) (cpu : Int) (k : Nat) : (rdy xs cpu k).length = (cand xs cpu k).length := (rdy_is xs cpu k).perm.length_eq
theorem natPost_of {w w' : World} {l : List Nat} {A : Option Addr} {n cc : Nat} (hl : l.length = n) (ho : w'.ownsRow w.heap.size 3 1 (.slice A n cc) n (I (ints l))) (hb : Below w.heap.size w w') : NatPost w l true (.returned (.tuple #[.slice A n cc, .bool true])) w' := by
  subst hl
  exact ⟨_, cc, rfl, ho, hb⟩
set_option maxRecDepth 100000 in
set_option maxHeartbeats 4000000 in
theorem implReady_any (A : Option Addr) (n c : Nat) (xs : List Irq) (cpu : Int) (w : World) (hr : Reads w w.heap.size 5 A n (FL xs)) (l : List Nat) (b : Bool) (h : rdAns xs cpu = (l, b)) :
    Calls Try.prog 29 #[.slice A n c, .int .i64 cpu] w (NatPost w l b) := by
  obtain ⟨i0, hi, hz0, hz1, hz2⟩ := info_parts intInfo
  obtain ⟨wb, hwb⟩ : ∃ wb, w.alloc (.cells #[.slice A n c] 25) = wb := ⟨_, rfl⟩
  have hb0 : Below w.heap.size w wb := by rw [← hwb]; exact below_more (Below.refl _ _) _
  have hx : Blk wb w.heap.size 25 #[.slice A n c] := by rw [← hwb]; exact Blk.new _ _ _
  have hsz : wb.heap.size = w.heap.size + 1 := by rw [← hwb, size1]
  have HR := Lib.hid ((hr.below hb0).more (Nat.le_of_lt (by rw [hsz]; exact Nat.lt_succ_self _) : w.heap.size ≤ wb.heap.size))
  have HH := Lib.hid h
  have HX := Lib.hid hx
  have HB0 := Lib.hid hb0
  have HWB := Lib.hid hwb
  have HL : Hid (xs.length = n) := Lib.hid (reads_len hr)
  have HSZ := Lib.hid hsz
  have k0 := hx.cell 0 _ rfl
  clear hr h hx hb0 hwb hsz
  by_cases hok : OkL xs
  · have HA := Lib.hid (decide_eq_true hok)
    have h8 : n = 8 := by rw [← HL.out]; exact hok.1
    subst h8
    by_cases hc : 0 ≤ cpu ∧ cpu < 4
    · have HC := Lib.hid (decide_eq_true hc)
      obtain ⟨rfl, rfl⟩ := rdAns_yes HH.out hok hc
      clear hok hc HH
      go_enter Try.func29, Try.ntmps29
      go_upto_region 1 with fail
      rw [HWB.out]
      clear HWB
      go_wp2_with fail
      refine (implAre_any A 8 c _ xs _ HR.out (Nat.le_refl _) _ HA.out).mono ?_
      rintro e w1 ⟨rfl, hb1⟩
      have HB1 := Lib.hid hb1
      have k1 := (Blk.kept hb1 HX.out).cell 0 _ rfl
      clear hb1 k0
      go_wp2_with fail
      refine (isCpu_any _ _ HC.out _).mono ?_
      rintro e w2 ⟨rfl, rfl⟩
      go_wp2_with fail
      go_loopw [6, 19] (fun u6 i wr => ∃ (k : Nat), i = .int .i64 k ∧ k ≤ 8 ∧ Hid (wr.ownsRow wb.heap.size 3 1 u6 (cand xs cpu k).length (I (ints (cand xs cpu k)))) ∧ Hid (Below wb.heap.size wb wr)) (fun _ i _ => 8 - (intOf i).toNat)
      case atStart => exact ⟨0, rfl, Nat.zero_le _, Lib.hid (World.ownsRow_nil _ _ _ _), HB1⟩
      case round =>
        clear k1
        obtain ⟨k, rfl, hk, HO, HB⟩ := hrel
        have k2 := (Blk.kept HB.out HX.out).cell 0 _ rfl
        by_cases hlt : k < 8
        · obtain ⟨b1, o1, x, rfl, hbB, hu, c0, c1, c2, c3, c4⟩ := irq_at (HR.out.below HB.out) hlt
          have HU := Lib.hid hu
          clear hu
          obtain ⟨q, hq⟩ : ∃ q, isRdy cpu x = q := ⟨_, rfl⟩
          have HQ := Lib.hid hq
          have HCS : Hid (cand xs cpu (k + 1) = cand xs cpu k ++ (if q = true then [k] else [])) := Lib.hid (by rw [cand_succ, getD_at HU.out, HQ.out])
          obtain ⟨x0, x1, x2, x3, x4⟩ := x
          simp only at c0 c1 c2 c3 c4
          clear hq
          go_wp2_with fail
          refine (isReady_c x0 x1 x2 x3 x4 cpu q HQ.out _).mono ?_
          rintro e w3 ⟨rfl, hb3⟩
          have hb4 := below_then (below_more (Below.refl wr.heap.size wr) (.cells #[.bool x0, .bool x1, .bool x2, .int .i64 x3, .int .i64 x4] 53)) hb3
          have HB3 := Lib.hid (below_then HB.out hb4)
          have HO3 := Lib.hid (own_below HO.out hb4)
          have hlen := cand_len xs cpu k
          obtain ⟨m, hm⟩ : ∃ m, (cand xs cpu k).length = m := ⟨_, rfl⟩
          rw [hm] at hlen HO3
          have HM := Lib.hid hm
          clear hb3 hb4 c0 c1 c2 c3 c4 k2 HO HB hm
          cases q with
          | true =>
            have HN : Hid (cand xs cpu (k + 1) = cand xs cpu k ++ [k]) := Lib.hid (by rw [HCS.out]; rfl)
            have hown := HO3.out
            have hbel := HB3.out
            have hsz := hbel.size
            clear HCS
            go_wp2_with (at_builtin; refine wpList_append_own _ rfl _ _ 35 rfl wb.heap.size 3 i0 (.int .i64 0) 1 8 Try.underlying35 hi hz0 hz1 hz2 rfl (by decide) _ _ _ rfl (hown.alloc _) ⟨w3.heap.size, 0, none⟩ 1 1 [.int .i64 k] rfl rfl (cell_one_new _ _ _) (fun x hx => by simp at hx; subst hx; rfl) (by unfold maxLen; omega) (by omega) (by simp; omega) ?_; intro v' w4 hown1 hgrow1 _)
            have HB4 := Lib.hid ((hbel.alloc hsz (.cells #[.int .i64 (k : Int)] 3)).grown hgrow1 (by simp; omega) (fun q hq => (hown.lt q hq).1))
            have HO4 : Hid (w4.ownsRow wb.heap.size 3 1 v' (cand xs cpu (k + 1)).length (I (ints (cand xs cpu (k + 1))))) := Lib.hid (by rw [HN.out, List.length_append, HM.out]; simpa [I, ints] using hown1)
            clear hown hbel hsz hown1 hgrow1
            go_roundw
            case rel => exact ⟨k + 1, by go_num, by omega, HO4, HB4⟩
            case measure => simp [intOf]; omega
          | false =>
            have HO4 : Hid (w3.ownsRow wb.heap.size 3 1 u6 (cand xs cpu (k + 1)).length (I (ints (cand xs cpu (k + 1))))) := Lib.hid (by rw [HCS.out]; simpa [HM.out] using HO3.out)
            clear HCS
            go_wp2_with fail
            go_roundw
            case rel => exact ⟨k + 1, by go_num, by omega, HO4, HB3⟩
            case measure => simp [intOf]; omega
        · have hkn : k = 8 := by omega
          subst hkn
          have hown := HO.out
          obtain ⟨m, hm⟩ : ∃ m, (cand xs cpu 8).length = m := ⟨_, rfl⟩
          rw [hm] at hown
          obtain ⟨A', c', rfl, _, _⟩ := own_form hown
          have HO' := Lib.hid hown
          have hrl : (rdy xs cpu 8).length = m := by rw [rdy_len_eq, hm]
          have HRL := Lib.hid hrl
          have HM := Lib.hid hm
          clear HO hown hrl hm
          by_cases h0 : m = 0
          · subst h0
            have hnil : rdy xs cpu 8 = [] := List.length_eq_zero_iff.1 HRL.out
            have HNIL := Lib.hid hnil
            clear hnil
            go_wp2_with (go_at_call 67; (with_reducible refine (sort_none A' c' _ _).mono ?_); rintro e w5 ⟨rfl, rfl⟩)
            go_ret2
            rw [HNIL.out]
            exact ⟨A', c', rfl, by have h := HO'.out; rw [show cand xs cpu 8 = [] from List.length_eq_zero_iff.1 HM.out] at h; exact own_mono h HB0.out.size, below_then HB0.out HB.out⟩
          · obtain ⟨g, rfl⟩ := own_head HO'.out (by omega)
            have hgs := HSZ.out
            go_wp2_with (go_at_call 67; (with_reducible refine (sort_some g w.heap.size A c m c' wb.heap.size xs cpu _ k2 (by omega) (HR.out.below HB.out) HO'.out).mono ?_); rintro e w5 ⟨rfl, hown5, hgrow5⟩)
            have HO5 := Lib.hid (own_mono hown5 HB0.out.size)
            have HB5 := Lib.hid (below_then HB0.out (HB.out.grown hgrow5 HB.out.size (fun q hq => by injection hq with hq; subst hq; exact (HO'.out.lt g rfl).1)))
            clear hown5 hgrow5 k2
            go_wp2_with fail
            go_ret2
            exact natPost_of HRL.out HO5.out HB5.out
    · have HC := Lib.hid (decide_eq_false hc)
      obtain ⟨rfl, rfl⟩ := rdAns_no HH.out (fun hh => hc hh.2)
      clear hok hc HH
      go_enter Try.func29, Try.ntmps29
      go_upto_region 1 with fail
      rw [HWB.out]
      clear HWB
      go_wp2_with fail
      refine (implAre_any A 8 c _ xs _ HR.out (Nat.le_refl _) _ HA.out).mono ?_
      rintro e w1 ⟨rfl, hb1⟩
      have HB1 := Lib.hid (below_then HB0.out hb1)
      clear hb1 k0
      go_wp2_with fail
      refine (isCpu_any _ _ HC.out _).mono ?_
      rintro e w2 ⟨rfl, rfl⟩
      go_wp2_with fail
      go_ret2
      exact ⟨none, 0, rfl, World.ownsRow_nil _ _ _ _, HB1.out⟩
  · have HA := Lib.hid (decide_eq_false hok)
    obtain ⟨rfl, rfl⟩ := rdAns_no HH.out (fun hh => hok hh.1)
    clear hok HH
    go_enter Try.func29, Try.ntmps29
    go_upto_region 1 with fail
    rw [HWB.out]
    clear HWB
    go_wp2_with fail
    refine (implAre_any A n c _ xs _ HR.out (Nat.le_refl _) _ HA.out).mono ?_
    rintro e w1 ⟨rfl, hb1⟩
    have HB1 := Lib.hid (below_then HB0.out hb1)
    clear hb1 k0
    go_wp2_with fail
    go_ret2
    exact ⟨none, 0, rfl, World.ownsRow_nil _ _ _ _, HB1.out⟩
end Go.Proofs.Ytclnhdjnmfkeaaa.L6
