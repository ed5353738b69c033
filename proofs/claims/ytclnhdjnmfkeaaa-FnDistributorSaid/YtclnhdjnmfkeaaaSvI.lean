/- What impl.ServeAll answers. -/
import Derived.Test.YtclnhdjnmfkeaaaRdB
import Derived.Test.YtclnhdjnmfkeaaaDcBeginIrqI
import Derived.Test.YtclnhdjnmfkeaaaDcEndIrqI
import Derived.Deep.LoopGhost
namespace Go.Proofs.Ytclnhdjnmfkeaaa.L6
open Go Go.RowKit Go.Proofs.Ytclnhdjnmfkeaaa.Mem Go.Proofs.Ytclnhdjnmfkeaaa.Own
/-- the answer of ServeAll: two lists of its own -/
def SvPost (w : World) (l : List Nat) (ys : List Irq) (b : Bool) (e : Ending) (w' : World) : Prop :=
  ∃ A' c' A2 c2, e = .returned (.tuple #[.slice A' l.length c', .slice A2 ys.length c2, .bool b]) ∧ w'.ownsRow w.heap.size 3 1 (.slice A' l.length c') l.length (I (ints l)) ∧ w'.ownsRow w.heap.size 53 5 (.slice A2 ys.length c2) ys.length (FL ys) ∧ Below w.heap.size w w'
theorem svAns_no {xs : List Irq} {cpu : Int} {l : List Nat} {ys : List Irq} {b : Bool} (h : svAns xs cpu = (l, ys, b)) (hn : ¬ (OkL xs ∧ (0 ≤ cpu ∧ cpu < 4))) : l = [] ∧ ys = [] ∧ b = false := by
  unfold svAns at h
  rw [if_neg hn] at h
  exact ⟨(congrArg Prod.fst h).symm, (congrArg (fun p => p.2.1) h).symm, (congrArg (fun p => p.2.2) h).symm⟩
theorem svAns_yes {xs : List Irq} {cpu : Int} {l : List Nat} {ys : List Irq} {b : Bool} (h : svAns xs cpu = (l, ys, b)) (ho : OkL xs) (hk : 0 ≤ cpu ∧ cpu < 4) : l = rdy xs cpu 8 ∧ ys = clr xs (rdy xs cpu 8) ∧ b = true := by
  unfold svAns at h
  rw [if_pos ⟨ho, hk⟩] at h
  exact ⟨(congrArg Prod.fst h).symm, (congrArg (fun p => p.2.1) h).symm, (congrArg (fun p => p.2.2) h).symm⟩
theorem svAns_len {xs : List Irq} {cpu : Int} {l : List Nat} {ys : List Irq} {b : Bool} (h : svAns xs cpu = (l, ys, b)) : l.length ≤ 8 ∧ ys.length ≤ 8 := by
  by_cases hh : OkL xs ∧ (0 ≤ cpu ∧ cpu < 4)
  · obtain ⟨rfl, rfl, _⟩ := svAns_yes h hh.1 hh.2
    exact ⟨rdy_len xs cpu 8, by rw [clr_len, hh.1.1]; exact Nat.le_refl _⟩
  · obtain ⟨rfl, rfl, _⟩ := svAns_no h hh
    simp
theorem svPost_of {w w' : World} {l : List Nat} {ys : List Irq} {A A2 : Option Addr} {n cc c2 : Nat} (hl : l.length = n) (hy : ys.length = 8) (ho : w'.ownsRow w.heap.size 3 1 (.slice A n cc) n (I (ints l))) (ho2 : w'.ownsRow w.heap.size 53 5 (.slice A2 8 c2) 8 (FL ys)) (hb : Below w.heap.size w w') : SvPost w l ys true (.returned (.tuple #[.slice A n cc, .slice A2 8 c2, .bool true])) w' := by
  subst hl
  unfold SvPost
  rw [hy]
  exact ⟨_, cc, _, c2, rfl, ho, ho2, hb⟩
/-- one interrupt begun and ended again -/
theorem begin_end {ys : List Irq} {j : Nat} {cpu : Int} {x : Irq} (h : OkL ys) (hj : j < 8) (hx : ys[j]? = some x) (hr : isRdy cpu x = true) :
    chAns ys j rdyOwn (fun x => { x with ac := true, pe := false }) = (ys.set j { x with ac := true, pe := false }, true) ∧
    chAns (ys.set j { x with ac := true, pe := false }) j (fun x => x.ac) (fun x => { x with ac := false }) = (ys.set j (quit x), true) := by
  have h1 : rdyOwn x = true ∧ x.ac = false := by
    rw [isRdy_split] at hr
    simp only [rdyOwn, Bool.and_eq_true, Bool.not_eq_true', decide_eq_true_eq] at hr ⊢
    exact ⟨hr.1, hr.1.2.2⟩
  have hjl : j < ys.length := by rw [h.1]; exact hj
  have e : ((j : Int)).toNat = j := by omega
  have hok2 : OkL (ys.set j { x with ac := true, pe := false }) := set_ok h (h.2 x (List.mem_of_getElem? hx))
  have hx2 : (ys.set j { x with ac := true, pe := false })[j]? = some { x with ac := true, pe := false } := List.getElem?_set_self hjl
  refine ⟨?_, ?_⟩
  · unfold chAns
    rw [e, getD_at hx, if_pos ⟨h, by omega, h1.1⟩]
  · unfold chAns
    rw [e, getD_at hx2, if_pos ⟨hok2, by omega, rfl⟩, List.set_set]
    have : ({ x with ac := false, pe := false } : Irq) = quit x := by
      obtain ⟨a, b, c, d, f⟩ := x
      simp only at h1
      rw [h1.2]
      rfl
    simp only
    rw [this]
set_option maxRecDepth 100000 in
set_option maxHeartbeats 4000000 in
theorem implServe_any (A : Option Addr) (n c : Nat) (xs : List Irq) (cpu : Int) (w : World) (hr : Reads w w.heap.size 5 A n (FL xs)) (l : List Nat) (ys : List Irq) (b : Bool) (h : svAns xs cpu = (l, ys, b)) :
    Calls Try.prog 40 #[.slice A n c, .int .i64 cpu] w (SvPost w l ys b) := by
  obtain ⟨i0, hi, hz0, hz1, hz2⟩ := info_parts intInfo
  have HR := Lib.hid hr
  have HH := Lib.hid h
  have HL : Hid (xs.length = n) := Lib.hid (reads_len hr)
  clear hr h
  by_cases hok : OkL xs
  · have HA := Lib.hid (decide_eq_true hok)
    have HOK := Lib.hid hok
    have h8 : n = 8 := by rw [← HL.out]; exact hok.1
    subst h8
    by_cases hc : 0 ≤ cpu ∧ cpu < 4
    · have HC := Lib.hid (decide_eq_true hc)
      have HCP := Lib.hid hc
      obtain ⟨rfl, rfl, rfl⟩ := svAns_yes HH.out hok hc
      obtain ⟨b1, o1, rfl, hbw, _⟩ := HR.out.2 (by omega)
      have hRlen := rdy_len xs cpu 8
      obtain ⟨R, hR⟩ : ∃ R, rdy xs cpu 8 = R := ⟨_, rfl⟩
      have HREM : Hid (∀ k, k ≤ R.length → rdy (clr xs (R.take k)) cpu 8 = R.drop k) := Lib.hid (fun k hk => by
        have h2 := rdy_clr xs cpu 8 (by rw [HL.out]; exact Nat.le_refl _) k (by rw [hR]; exact hk)
        rw [hR] at h2
        exact h2)
      have HR8 : Hid (∀ j ∈ R, j < 8) := Lib.hid (fun j hj => by rw [← hR] at hj; exact rdy_lt hj)
      rw [hR] at hRlen ⊢
      clear hok hc HH hR
      go_enter Try.func40, Try.ntmps40
      go_wp2_with fail
      refine (implAre_any _ 8 c _ xs _ HR.out (Nat.le_refl _) _ HA.out).mono ?_
      rintro e w1 ⟨rfl, hb1⟩
      have HB1 := Lib.hid hb1
      clear hb1
      go_wp2_with fail
      refine (isCpu_any _ _ HC.out _).mono ?_
      rintro e w2 ⟨rfl, rfl⟩
      go_wp2_with fail
      refine (irq_clone b1 o1 8 c _ xs _ (HR.out.below HB1.out) (by omega) (by omega)).mono ?_
      rintro e w2 ⟨g, cc, rfl, hown, hb2⟩
      have HB2 := Lib.hid (below_then HB1.out hb2)
      have HO2 := Lib.hid (own_mono hown HB1.out.size)
      clear hown hb2
      go_wp2_with fail
      go_loopg [7, 8] 9 (fun gg u7 u8 wr => ∃ (k : Nat) (A7 : Option Addr) (c7 g8 c8 : Nat), u7 = .slice A7 k c7 ∧ u8 = .slice (some ⟨g8, 0, none⟩) 8 c8 ∧ k ≤ R.length ∧ R.length - k < gg ∧ Hid (wr.ownsRow w.heap.size 3 1 (.slice A7 k c7) k (I (ints (R.take k)))) ∧ Hid (wr.ownsRow w.heap.size 53 5 (.slice (some ⟨g8, 0, none⟩) 8 c8) 8 (FL (clr xs (R.take k)))) ∧ Hid (Below w.heap.size w wr))
      case atStart => exact ⟨0, none, 0, g, cc, rfl, rfl, Nat.zero_le _, by omega, Lib.hid (World.ownsRow_nil _ _ _ _), HO2, HB2⟩
      case round =>
        clear HO2 HB2
        obtain ⟨k, A7, c7, g8, c8, rfl, rfl, hk, hgg, HO7, HO8, HB⟩ := hrel
        have HR8r := Lib.hid (own_reads HO8.out)
        have HOKY : Hid (OkL (clr xs (R.take k))) := Lib.hid (clr_ok HOK.out _ (fun j hj => HR8.out j (List.mem_of_mem_take hj)))
        have HMU : Hid (rdy (clr xs (R.take k)) cpu 8 = R.drop k) := Lib.hid (HREM.out k hk)
        obtain ⟨ys, hys⟩ : ∃ ys, clr xs (R.take k) = ys := ⟨_, rfl⟩
        rw [hys] at HR8r HOKY HMU HO8
        have HYS := Lib.hid hys
        clear hys
        by_cases hkl : k < R.length
        · obtain ⟨j, hj⟩ : ∃ j, R[k]? = some j := ⟨_, List.getElem?_eq_getElem hkl⟩
          have hj8 : j < 8 := HR8.out j (List.mem_of_getElem? hj)
          have hdr : R.drop k = j :: R.drop (k + 1) := by rw [List.drop_eq_getElem_cons hkl]; congr 1; exact Option.some.inj ((List.getElem?_eq_getElem hkl).symm.trans hj)
          have hrj : rdy ys cpu 8 = j :: R.drop (k + 1) := by rw [HMU.out, hdr]
          have hmem := ((rdy_is ys cpu 8).mem (j := j)).1 (by rw [hrj]; exact List.mem_cons_self)
          obtain ⟨x, hx⟩ : ∃ x, ys[j]? = some x := ⟨_, List.getElem?_eq_getElem (by rw [HOKY.out.1]; exact hj8)⟩
          have hrx : isRdy cpu x = true := by have h2 := hmem.2; rwa [getD_at hx] at h2
          obtain ⟨hbe, hen⟩ := begin_end HOKY.out hj8 hx hrx
          have HMA : Hid (muAns ys cpu = ((j : Int), true)) := Lib.hid (by unfold muAns; rw [if_pos ⟨HOKY.out, HCP.out⟩, hrj])
          have HBE := Lib.hid hbe
          have HEN := Lib.hid hen
          have HTK : Hid (R.take (k + 1) = R.take k ++ [j]) := Lib.hid (by rw [List.take_add_one, hj]; rfl)
          have HCN : Hid (clr xs (R.take (k + 1)) = ys.set j (quit x)) := Lib.hid (by rw [HTK.out, clr_snoc, HYS.out, getD_at hx])
          have hl8 : ys.length = 8 := HOKY.out.1
          have HS1 : Hid ((ys.set j { x with ac := true, pe := false }).length = 8) := Lib.hid (by rw [List.length_set]; exact hl8)
          have HS2 : Hid ((ys.set j (quit x)).length = 8) := Lib.hid (by rw [List.length_set]; exact hl8)
          have hjne : ((j : Int) == -1) = false := by simp
          clear hj hdr hrj hmem hx hrx hbe hen hl8 HMU
          go_wp2_with fail
          refine (implMost_any _ 8 c8 ys cpu _ HR8r.out _ _ HMA.out).mono ?_
          rintro e w3 ⟨rfl, hb3⟩
          have HB3 := Lib.hid (below_then HB.out hb3)
          have HO73 := Lib.hid (own_below HO7.out hb3)
          have HR3 := Lib.hid ((HR8r.out.below hb3).more hb3.size)
          clear hb3 HB HO7 HR8r HO8
          go_wp2_with fail
          refine (implBeginIrq_any _ 8 c8 ys j _ HR3.out (by omega) _ _ HBE.out).mono ?_
          rintro e w4 ⟨A4, c4, rfl, hown4, hb4⟩
          rw [HS1.out] at hown4 ⊢
          obtain ⟨g4, rfl⟩ := own_head hown4 (by omega)
          have HB4 := Lib.hid (below_then HB3.out hb4)
          have HO74 := Lib.hid (own_below HO73.out hb4)
          have HR4 := Lib.hid (own_reads hown4)
          clear hb4 hown4 HB3 HO73 HR3
          go_wp2_with fail
          refine (implEndIrq_any _ 8 c4 _ j _ HR4.out (by omega) _ _ HEN.out).mono ?_
          rintro e w5 ⟨A5, c5, rfl, hown5, hb5⟩
          rw [HS2.out] at hown5 ⊢
          obtain ⟨g5, rfl⟩ := own_head hown5 (by omega)
          have HB5 := Lib.hid (below_then HB4.out hb5)
          have HO75 := Lib.hid (own_below HO74.out hb5)
          have HO85 := Lib.hid (own_mono hown5 HB4.out.size)
          clear hb5 hown5 HB4 HO74 HR4
          have hown := HO75.out
          have hsz := HB5.out.size
          go_wp2_with (at_builtin; refine wpList_append_own _ rfl _ _ 35 rfl w.heap.size 3 i0 (.int .i64 0) 1 8 Try.underlying35 hi hz0 hz1 hz2 rfl (by decide) _ _ _ rfl (hown.alloc _) ⟨w5.heap.size, 0, none⟩ 1 1 [.int .i64 j] rfl rfl (cell_one_new _ _ _) (fun x hx => by simp at hx; subst hx; rfl) (by unfold maxLen; omega) (by omega) (by simp; omega) ?_; intro v' w6 hown1 hgrow1 _)
          obtain ⟨A6, c6, rfl, _, _⟩ := own_form hown1
          have hba := below_more (Below.refl w5.heap.size w5) (.cells #[.int .i64 (j : Int)] 3)
          have HB6 := Lib.hid ((below_then HB5.out hba).grown hgrow1 (by simp; omega) (fun q hq => (hown.lt q hq).1))
          have HO76 : Hid (w6.ownsRow w.heap.size 3 1 (.slice A6 (k + 1) c6) (k + 1) (I (ints (R.take (k + 1))))) := Lib.hid (by rw [HTK.out]; simpa [I, ints] using hown1)
          have HO86 : Hid (w6.ownsRow w.heap.size 53 5 (.slice (some ⟨g5, 0, none⟩) 8 c5) 8 (FL (clr xs (R.take (k + 1))))) := Lib.hid (by rw [HCN.out]; exact own_apart (own_below HO85.out hba) hgrow1 (apart_types (own_below hown hba) (own_below HO85.out hba) (by decide)))
          clear hown hsz hown1 hgrow1 hba
          go_roundg (R.length - (k + 1) + 1)
          case measure => omega
          case rel => exact ⟨k + 1, A6, c6, g5, c5, rfl, rfl, by omega, by omega, HO76, HO86, HB6⟩
        · have hke : k = R.length := by omega
          have hall : R.take k = R := List.take_of_length_le (by omega)
          have HMA : Hid (muAns ys cpu = (-1, true)) := Lib.hid (by unfold muAns; rw [if_pos ⟨HOKY.out, HCP.out⟩, HMU.out, List.drop_of_length_le (by omega)])
          have HF7 : Hid (wr.ownsRow w.heap.size 3 1 (.slice A7 k c7) k (I (ints R))) := Lib.hid (by rw [← hall]; simpa [hall] using HO7.out)
          have HF8 : Hid (wr.ownsRow w.heap.size 53 5 (.slice (some ⟨g8, 0, none⟩) 8 c8) 8 (FL (clr xs R))) := Lib.hid (by have h2 := HO8.out; rw [← HYS.out, hall] at h2; exact h2)
          have HKE := Lib.hid hke
          clear hke hall HO7 HO8 HMU
          go_wp2_with fail
          refine (implMost_any _ 8 c8 ys cpu _ HR8r.out _ _ HMA.out).mono ?_
          rintro e w3 ⟨rfl, hb3⟩
          have HB3 := Lib.hid (below_then HB.out hb3)
          have HG7 := Lib.hid (own_below HF7.out hb3)
          have HG8 := Lib.hid (own_below HF8.out hb3)
          clear hb3 HB HF7 HF8
          go_wp2_with fail
          go_ret3
          exact svPost_of HKE.out.symm (by rw [clr_len]; exact HL.out) HG7.out HG8.out HB3.out
    · have HC := Lib.hid (decide_eq_false hc)
      obtain ⟨rfl, rfl, rfl⟩ := svAns_no HH.out (fun hh => hc hh.2)
      clear hok hc HH
      go_enter Try.func40, Try.ntmps40
      go_wp2_with fail
      refine (implAre_any A 8 c _ xs _ HR.out (Nat.le_refl _) _ HA.out).mono ?_
      rintro e w1 ⟨rfl, hb1⟩
      have HB1 := Lib.hid hb1
      clear hb1
      go_wp2_with fail
      refine (isCpu_any _ _ HC.out _).mono ?_
      rintro e w2 ⟨rfl, rfl⟩
      go_wp2_with fail
      go_ret3
      exact ⟨none, 0, none, 0, rfl, World.ownsRow_nil _ _ _ _, World.ownsRow_nil _ _ _ _, HB1.out⟩
  · have HA := Lib.hid (decide_eq_false hok)
    obtain ⟨rfl, rfl, rfl⟩ := svAns_no HH.out (fun hh => hok hh.1)
    clear hok HH
    go_enter Try.func40, Try.ntmps40
    go_wp2_with fail
    refine (implAre_any A n c _ xs _ HR.out (Nat.le_refl _) _ HA.out).mono ?_
    rintro e w1 ⟨rfl, hb1⟩
    have HB1 := Lib.hid hb1
    clear hb1
    go_wp2_with fail
    go_ret3
    exact ⟨none, 0, none, 0, rfl, World.ownsRow_nil _ _ _ _, World.ownsRow_nil _ _ _ _, HB1.out⟩
end Go.Proofs.Ytclnhdjnmfkeaaa.L6
