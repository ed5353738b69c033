/- For every code the law FnDistributor returns true. -/
import Derived.Test.YtclnhdjnmfkeaaaRows
import Derived.Test.YtclnhdjnmfkeaaaFrame
import Derived.Test.YtclnhdjnmfkeaaaDr6
import Derived.Test.YtclnhdjnmfkeaaaVIrq
import Derived.Test.YtclnhdjnmfkeaaaVInt
import Derived.Test.YtclnhdjnmfkeaaaSvS
import Derived.Test.YtclnhdjnmfkeaaaPmS
import Derived.Test.YtclnhdjnmfkeaaaAreS
import Derived.Deep.Cut
namespace Go.Proofs.Ytclnhdjnmfkeaaa.fnDistributor
open Go.ChangeShapes Go.WideShapes Go.ChangeAt Go.RowKit
open Go.ChangeMaps (open_string shut_string)
open Go Go.Proofs.Ytclnhdjnmfkeaaa.L6 Go.Proofs.Ytclnhdjnmfkeaaa.Mem Go.Proofs.Ytclnhdjnmfkeaaa.Own Go.Proofs.Ytclnhdjnmfkeaaa.Draw
set_option linter.unusedVariables false
theorem own : ownKnob Try.prog.godebug = none := by kernel_rfl
theorem laidOut : laidOutB Try.prog = true := by kernel_rfl
theorem pass {w w1 w2 : World} (h : Below w.heap.size w w1) (k : Below w1.heap.size w1 w2) : Below w.heap.size w w2 := h.trans (k.mono h.size)
/-- MostUrgent's answer succeeds where ReadyIrqs' does -/
theorem mu_pair (xs : List Irq) (cpu : Int) {l : List Nat} {b : Bool} (h : rdAns xs cpu = (l, b)) : ∃ z, muAns xs cpu = (z, b) := by
  unfold rdAns at h
  unfold muAns
  split at h
  · rename_i hh
    rw [if_pos hh]
    exact ⟨_, by rw [show b = true from (congrArg Prod.snd h).symm]⟩
  · rename_i hh
    rw [if_neg hh]
    exact ⟨_, by rw [show b = false from (congrArg Prod.snd h).symm]⟩
theorem rd_true {xs : List Irq} {cpu : Int} {l : List Nat} (h : rdAns xs cpu = (l, true)) : OkL xs ∧ (0 ≤ cpu ∧ cpu < 4) ∧ l = rdy xs cpu 8 := by
  unfold rdAns at h
  split at h
  · rename_i hh
    exact ⟨hh.1, hh.2, (congrArg Prod.fst h).symm⟩
  · cases congrArg Prod.snd h
theorem rd_ord {xs : List Irq} {cpu : Int} {i a b : Nat} (ha : (rdy xs cpu 8)[i]? = some a) (hb : (rdy xs cpu 8)[i + 1]? = some b) : prio xs a < prio xs b ∨ (prio xs a = prio xs b ∧ a < b) := by
  have hi := rdy_is xs cpu 8
  obtain ⟨ha1, ha2⟩ := List.getElem?_eq_some_iff.1 ha
  obtain ⟨hb1, hb2⟩ := List.getElem?_eq_some_iff.1 hb
  have h1 := (List.pairwise_iff_getElem.1 hi.sorted) i (i + 1) ha1 hb1 (Nat.lt_succ_self _)
  have h2 := (List.pairwise_iff_getElem.1 hi.nodup) i (i + 1) ha1 hb1 (Nat.lt_succ_self _)
  rw [ha2, hb2] at h1 h2
  simp only [le, decide_eq_true_eq] at h1
  omega
theorem rd_lt {xs : List Irq} {cpu : Int} {i a : Nat} (ha : (rdy xs cpu 8)[i]? = some a) : a < 8 := rdy_lt (List.mem_of_getElem? ha)
/-- the most urgent one begun: the others are ready as before -/
theorem begun {xs : List Irq} {cpu : Int} {j : Nat} {l : List Nat} (ho : OkL xs) (hc : 0 ≤ cpu ∧ cpu < 4) (h : rdy xs cpu 8 = j :: l) : ∃ ys, chAns xs j rdyOwn (fun x => { x with ac := true, pe := false }) = (ys, true) ∧ rdAns ys cpu = (l, true) ∧ ys.length = 8 := by
  have hmem := ((rdy_is xs cpu 8).mem (j := j)).1 (by rw [h]; exact List.mem_cons_self)
  obtain ⟨x, hx⟩ : ∃ x, xs[j]? = some x := ⟨_, List.getElem?_eq_getElem (by rw [ho.1]; exact hmem.1)⟩
  have hr : isRdy cpu x = true := by have h2 := hmem.2; rwa [getD_at hx] at h2
  have h1 := (begin_end ho hmem.1 hx hr).1
  have hok : OkL (xs.set j { x with ac := true, pe := false }) := set_ok ho (ho.2 x (List.mem_of_getElem? hx))
  refine ⟨_, h1, ?_, hok.1⟩
  rw [rdAns_of hok hc, rdy_set h (by rw [ho.1]; exact Nat.le_refl _) (by simp [isRdy]) (by rw [getD_at hx])]
set_option maxRecDepth 100000 in
set_option maxHeartbeats 2500000 in
theorem walk0 (W : World) (A : Option Addr) (n c : Nat) (zs : List Int) (hz : ∀ z ∈ zs, 0 ≤ z ∧ z ≤ 255) (hr : Reads W W.heap.size 1 A n (zs.map (Value.int .u8))) :
    Calls Try.prog 13 #[.slice A n c] W fun e W' => e = .returned (.bool true) ∧ Below W.heap.size W W' := by
  by_cases h1 : (65536 : Int) < n
  · have hv := vBig_any A n c W
    rw [decide_eq_true h1] at hv
    have HV := Lib.hid hv
    clear hv hr
    go_enter Try.func13, Try.ntmps13
    go_wp2_with fail
    refine HV.out.mono ?_
    rintro e w1 ⟨rfl, rfl⟩
    go_wp2_with fail
    go_ret
    exact ⟨rfl, Below.refl _ _⟩
  have hv := vBig_any A n c W
  rw [decide_eq_false h1] at hv
  have HV := Lib.hid hv
  have hn : n ≤ 1000000 := by omega
  have HR := Lib.hid fun (w : World) (hb : Below W.heap.size W w) => (show Reads w w.heap.size 1 A n (zs.map (Value.int .u8)) from (hr.below hb).more hb.size)
  have HZ := Lib.hid hz
  have HW := Lib.hid (Below.refl W.heap.size W)
  clear hv hr hz h1
  go_enter Try.func13, Try.ntmps13
  go_wp2_with fail
  refine HV.out.mono ?_
  rintro e w0 ⟨rfl, rfl⟩
  clear HV
  go_wp2_with fail
  refine (drawReadyIrqs_any _ A n c zs HZ.out (HR.out _ HW.out) hn).mono ?_
  rintro e w1 ⟨gl, m, cl, xs, x, rfl, hm, hown, hb⟩
  replace HW := Lib.hid (pass HW.out hb)
  have RL := Lib.hid (own_reads hown)
  clear hown hb
  obtain ⟨ya, hy⟩ : ∃ ya, rdAns xs x = ya := ⟨_, rfl⟩
  obtain ⟨l1, b1⟩ := ya
  obtain ⟨z1, hz1⟩ := mu_pair xs x hy
  have HM1 := Lib.hid hz1
  clear hz1
  have r1_len := rdAns_len hy
  obtain ⟨r1, hr1⟩ : ∃ r, l1.length = r := ⟨_, rfl⟩
  rw [hr1] at r1_len
  have r1_H := Lib.hid hr1
  clear hr1
  have H1 := Lib.hid hy
  clear hy
  go_wp2_with fail
  refine (implReady_any (some ⟨gl, 0, none⟩) m cl xs x _ RL.out _ _ H1.out).mono ?_
  rintro e w2 ⟨A_RA, c_RA, rfl, hown, hb⟩
  rw [r1_H.out] at hown ⊢
  replace HW := Lib.hid (pass HW.out hb)
  replace RL := Lib.hid ((RL.out.below hb).more hb.size)
  have RA := Lib.hid (own_reads hown)
  clear hb
  have RAc : Hid (r1 ≤ c_RA) := Lib.hid (by obtain ⟨_, _, e1, h3, _⟩ := own_form hown; simp only [Value.slice.injEq, true_and] at e1; omega)
  clear hown
  go_wp2_with fail
  refine (specReady_any (some ⟨gl, 0, none⟩) m cl xs x _ RL.out (by omega) _ _ H1.out).mono ?_
  rintro e w3 ⟨A_RB, c_RB, rfl, hown, hb⟩
  rw [r1_H.out] at hown ⊢
  replace HW := Lib.hid (pass HW.out hb)
  replace RL := Lib.hid ((RL.out.below hb).more hb.size)
  replace RA := Lib.hid ((RA.out.below hb).more hb.size)
  have RB := Lib.hid (own_reads hown)
  clear hb
  clear hown
  have hnb : (b1 != b1) = false := by simp
  obtain ⟨q1, hq1⟩ : ∃ q, decide (OkL xs) = q := ⟨_, rfl⟩
  have HQ1 := Lib.hid hq1
  clear hq1
  have hnq : (q1 != q1) = false := by simp
  have hnz : (z1 != z1) = false := by simp
  go_wp2_with fail
  refine (vInts_same A_RA A_RB r1 c_RA c_RB (ints l1) _ (by omega) RA.out RB.out).mono ?_
  rintro e w4 ⟨rfl, hb⟩
  replace HW := Lib.hid (pass HW.out hb)
  replace RL := Lib.hid ((RL.out.below hb).more hb.size)
  replace RA := Lib.hid ((RA.out.below hb).more hb.size)
  replace RB := Lib.hid ((RB.out.below hb).more hb.size)
  clear hb
  go_wp2_with fail
  refine (implAre_any (some ⟨gl, 0, none⟩) m cl _ xs _ RL.out (Nat.le_refl _) _ HQ1.out).mono ?_
  rintro e w5 ⟨rfl, hb⟩
  replace HW := Lib.hid (pass HW.out hb)
  replace RL := Lib.hid ((RL.out.below hb).more hb.size)
  replace RA := Lib.hid ((RA.out.below hb).more hb.size)
  replace RB := Lib.hid ((RB.out.below hb).more hb.size)
  clear hb
  go_wp2_with fail
  refine (specAre_any (some ⟨gl, 0, none⟩) m cl _ xs _ RL.out (by omega) _ HQ1.out).mono ?_
  rintro e w6 ⟨rfl, hb⟩
  replace HW := Lib.hid (pass HW.out hb)
  replace RL := Lib.hid ((RL.out.below hb).more hb.size)
  replace RA := Lib.hid ((RA.out.below hb).more hb.size)
  replace RB := Lib.hid ((RB.out.below hb).more hb.size)
  clear hb
  go_wp2_with fail
  refine (implMost_any (some ⟨gl, 0, none⟩) m cl xs x _ RL.out _ _ HM1.out).mono ?_
  rintro e w7 ⟨rfl, hb⟩
  replace HW := Lib.hid (pass HW.out hb)
  replace RL := Lib.hid ((RL.out.below hb).more hb.size)
  replace RA := Lib.hid ((RA.out.below hb).more hb.size)
  replace RB := Lib.hid ((RB.out.below hb).more hb.size)
  clear hb
  go_wp2_with fail
  refine (specMost_any (some ⟨gl, 0, none⟩) m cl xs x _ RL.out (by omega) _ _ HM1.out).mono ?_
  rintro e w8 ⟨rfl, hb⟩
  replace HW := Lib.hid (pass HW.out hb)
  replace RL := Lib.hid ((RL.out.below hb).more hb.size)
  replace RA := Lib.hid ((RA.out.below hb).more hb.size)
  replace RB := Lib.hid ((RB.out.below hb).more hb.size)
  clear hb
  clear RB
  go_upto_if 100 with fail
  clear hnb hnq hnz HQ1
  go_cut [] from 40 (fun wx => Hid (Below W.heap.size W wx))
  case first =>
    cases b1 with
    | false =>
      go_wp2_with fail
      go_meet
      exact HW
    | true =>
      obtain ⟨hok, hcp, hl1⟩ := rd_true H1.out
      have hm8 : m = 8 := by rw [← reads_len RL.out]; exact hok.1
      subst hm8
      have HOK := Lib.hid hok
      have HCP := Lib.hid hcp
      have HL1 := Lib.hid hl1
      clear hok hcp hl1
      obtain ⟨wq, hwq⟩ : ∃ w, w = w8 := ⟨_, rfl⟩
      subst hwq
      go_wp2_with fail
      go_loopw [13] (fun ui wr => ∃ (i : Nat), ui = .int .i64 ((i : Int) + 1) ∧ (i + 1 ≤ r1 ∨ i = 0) ∧ Hid (Below wq.heap.size wq wr)) (fun ui _ => r1 - (intOf ui).toNat)
      case atStart => exact ⟨0, rfl, .inr rfl, Lib.hid (Below.refl _ _)⟩
      case round =>
        obtain ⟨i, rfl, hi, HBR⟩ := hrel
        replace RL := Lib.hid ((RL.out.below HBR.out).more HBR.out.size)
        replace RA := Lib.hid ((RA.out.below HBR.out).more HBR.out.size)
        by_cases hlt : i + 1 < r1
        · have hll : i + 1 < l1.length := by rw [r1_H.out]; exact hlt
          obtain ⟨a, ha⟩ : ∃ a, l1[i]? = some a := ⟨_, List.getElem?_eq_getElem (by omega)⟩
          obtain ⟨b, hb⟩ : ∃ b, l1[i + 1]? = some b := ⟨_, List.getElem?_eq_getElem hll⟩
          have hord := rd_ord (xs := xs) (cpu := x) (by rw [← HL1.out]; exact ha) (by rw [← HL1.out]; exact hb)
          have ha8 : a < 8 := rd_lt (xs := xs) (cpu := x) (by rw [← HL1.out]; exact ha)
          have hb8 : b < 8 := rd_lt (xs := xs) (cpu := x) (by rw [← HL1.out]; exact hb)
          obtain ⟨gA, oA, ea, _, hca⟩ : ∃ g o, A_RA = some ⟨g, o, none⟩ ∧ g < wr.heap.size ∧ ∀ j u, (I (ints l1))[j]? = some u → wr.cell? ⟨g, o + j, none⟩ = some u := by
            obtain ⟨g, o, h1, h2, h3⟩ := RA.out.2 (by omega)
            exact ⟨g, o, h1, h2, h3⟩
          have ka := hca i _ (I_at (Go.Proofs.Ytclnhdjnmfkeaaa.L6.ints_at ha))
          have kb := hca (i + 1) _ (I_at (Go.Proofs.Ytclnhdjnmfkeaaa.L6.ints_at hb))
          obtain ⟨b9, o9, u, e9, _, hu, _, _, _, ca, _⟩ := irq_at RL.out ha8
          obtain ⟨b7, o7, v, e7, _, hv, _, _, _, cb, _⟩ := irq_at RL.out hb8
          have hpa : prio xs a = u.pr := by unfold prio; rw [getD_at hu]
          have hpb : prio xs b = v.pr := by unfold prio; rw [getD_at hv]
          rw [hpa, hpb] at hord
          simp only [Option.some.injEq, Addr.mk.injEq, and_true] at e9 e7
          obtain ⟨rfl, rfl⟩ := e9
          obtain ⟨rfl, rfl⟩ := e7
          simp only [Nat.zero_add] at ca cb
          obtain ⟨u0, u1, u2, p, u4⟩ := u
          obtain ⟨v0, v1, v2, q, v4⟩ := v
          simp only at ca cb hord
          have hgt : decide (q < p) = false := decide_eq_false (by omega)
          have ew : IntKind.i64.wrap ((i : Int) + 1 - 1) = (i : Int) := by rw [IntWalk.i64_in _ (by omega)]; omega
          have ew2 : (i : Int) + 1 - 1 = (i : Int) := by omega
          have haz : (a : Int) < 8 := by omega
          have hbz : (b : Int) < 8 := by omega
          have hir : (i : Int) + 1 < r1 := by omega
          have hir0 : (i : Int) < r1 := by omega
          subst ea
          have heqc : (p == q) = false ∨ ((p == q) = true ∧ decide ((b : Int) ≤ (a : Int)) = false ∧ decide (b ≤ a) = false) := by
            rcases hord with h | h
            · exact .inl (by simp; omega)
            · exact .inr ⟨by simp; exact h.1, decide_eq_false (by omega), decide_eq_false (by omega)⟩
          clear hord hca ha hb hu hv hpa hpb hll
          rcases heqc with hpq | ⟨hpq, hge, hge2⟩
          all_goals
            go_wp2_with fail
            go_quiet (fail)
            go_wp2_with fail
            go_quiet (fail)
            go_wp2_with fail
            go_roundw
            case rel => exact ⟨i + 1, by go_num, .inl (by omega), Lib.hid (pass HBR.out ⟨rfl, rfl, rfl, Nat.le_refl _, fun _ _ => rfl⟩)⟩
            case measure => simp [intOf]; omega
        · replace HW := Lib.hid (pass HW.out HBR.out)
          obtain ⟨wp, hwp⟩ : ∃ w, w = wr := ⟨_, rfl⟩
          subst hwp
          clear HBR
    
          have hsv : svAns xs x = (l1, clr xs l1, true) := by unfold svAns; rw [if_pos ⟨HOK.out, HCP.out⟩, HL1.out]
          have HSV := Lib.hid hsv
          have hcok : OkL (clr xs l1) := clr_ok HOK.out l1 (fun j hj => by rw [HL1.out] at hj; exact rdy_lt hj)
          have hcl8 := hcok.1
          have hrc : rdy (clr xs l1) x 8 = [] := by
            have h2 := rdy_clr xs x 8 (by rw [HOK.out.1]; exact Nat.le_refl _) l1.length (by rw [← HL1.out]; exact Nat.le_refl _)
            rw [← HL1.out, List.take_length, List.drop_length] at h2
            exact h2
          have hm3 : muAns (clr xs l1) x = (-1, true) := by unfold muAns; rw [if_pos ⟨hcok, HCP.out⟩, hrc]
          have HM3 := Lib.hid hm3
          have r3_H : Hid ((clr xs l1).length = 8) := Lib.hid hcl8
          clear hsv hcok hcl8 hrc hm3
          cases hl : l1 with
          | nil =>
            have hr0 : r1 = 0 := by rw [← r1_H.out, hl]; rfl
            subst hr0
            have hz : z1 = -1 := by
              have h2 := HM1.out
              unfold muAns at h2
              rw [if_pos ⟨HOK.out, HCP.out⟩, ← HL1.out, hl] at h2
              exact (congrArg Prod.fst h2).symm
            subst hz
            clear hl
            go_wp2_with fail
            refine (implServe_any (some ⟨gl, 0, none⟩) 8 cl xs x _ RL.out _ _ _ HSV.out).mono ?_
            rintro e w9 ⟨A_SA, c_SA, A_SL, c_SL, rfl, hown, hown2, hb⟩
            rw [r1_H.out] at hown
            rw [r3_H.out] at hown2
            rw [r1_H.out, r3_H.out]
            replace HW := Lib.hid (pass HW.out hb)
            replace RL := Lib.hid ((RL.out.below hb).more hb.size)
            replace RA := Lib.hid ((RA.out.below hb).more hb.size)
            have SA := Lib.hid (own_reads hown)
            have SL := Lib.hid (own_reads hown2)
            clear hown hown2 hb
            go_wp2_with fail
            refine (implMost_any A_SL 8 c_SL _ x _ SL.out _ _ HM3.out).mono ?_
            rintro e w10 ⟨rfl, hb⟩
            replace HW := Lib.hid (pass HW.out hb)
            replace RL := Lib.hid ((RL.out.below hb).more hb.size)
            replace RA := Lib.hid ((RA.out.below hb).more hb.size)
            replace SA := Lib.hid ((SA.out.below hb).more hb.size)
            replace SL := Lib.hid ((SL.out.below hb).more hb.size)
            clear hb
            go_wp2_with fail
            refine (vInts_same A_SA A_RA 0 c_SA c_RA (ints l1) _ (by omega) SA.out RA.out).mono ?_
            rintro e w11 ⟨rfl, hb⟩
            replace HW := Lib.hid (pass HW.out hb)
            replace RL := Lib.hid ((RL.out.below hb).more hb.size)
            replace RA := Lib.hid ((RA.out.below hb).more hb.size)
            replace SA := Lib.hid ((SA.out.below hb).more hb.size)
            replace SL := Lib.hid ((SL.out.below hb).more hb.size)
            clear hb
            go_wp2_with fail
            go_meet
            exact HW
          | cons j tl =>
            obtain ⟨ys, hbe, hrd, hy8⟩ := begun HOK.out HCP.out (HL1.out.symm.trans hl)
            have hz : z1 = j := by
              have h2 := HM1.out
              unfold muAns at h2
              rw [if_pos ⟨HOK.out, HCP.out⟩, ← HL1.out, hl] at h2
              exact (congrArg Prod.fst h2).symm
            subst hz
            have hr1 : 0 < r1 := by rw [← r1_H.out, hl]; simp
            have htl : tl.length = r1 - 1 := by rw [← r1_H.out, hl]; simp
            have HTL := Lib.hid htl
            have HBE := Lib.hid hbe
            have HRD := Lib.hid hrd
            have HY8 := Lib.hid hy8
            obtain ⟨gA, oA, ea, _, hca⟩ : ∃ g o, A_RA = some ⟨g, o, none⟩ ∧ g < wp.heap.size ∧ ∀ j u, (I (ints l1))[j]? = some u → wp.cell? ⟨g, o + j, none⟩ = some u := by
              obtain ⟨g, o, h1, h2, h3⟩ := RA.out.2 (by omega)
              exact ⟨g, o, h1, h2, h3⟩
            subst ea
            have ka : wp.cell? ⟨gA, oA, none⟩ = some (.int .i64 (j : Int)) := by have h2 := hca 0 (.int .i64 (j : Int)) (by rw [hl]; rfl); simpa using h2
            have hne : ((r1 : Int) == 0) = false := by simp; omega
            have hnj : ((j : Int) == -1) = false := by simp
            have hgt : decide ((0 : Nat) < r1) = true := decide_eq_true hr1
            have hgt1 : (1 : Int) ≤ r1 := by omega
            have HTR : Hid (∀ w, Below wp.heap.size wp w → ∀ o2, (c_RA = 1 ∨ o2 = oA + 1) → r1 ≤ c_RA → Reads w w.heap.size 1 (some ⟨gA, o2, none⟩) (r1 - 1) (I (ints tl))) := Lib.hid (fun w hb o2 ho hrc => by
              refine ⟨by simp [I, ints, htl], fun hp => ⟨gA, o2, rfl, ?_, ?_⟩⟩
              · obtain ⟨b2, off2, e2, h2, _⟩ := RA.out.2 (by omega)
                simp only [Option.some.injEq, Addr.mk.injEq, and_true] at e2
                obtain ⟨rfl, rfl⟩ := e2
                exact Nat.lt_of_lt_of_le h2 hb.size
              · intro q u hu
                have h2 := hca (q + 1) u (by rw [hl]; simpa [I, ints] using hu)
                rcases ho with h | h
                · omega
                · obtain ⟨b2, off2, e2, h3, _⟩ := RA.out.2 (by omega)
                  simp only [Option.some.injEq, Addr.mk.injEq, and_true] at e2
                  obtain ⟨rfl, rfl⟩ := e2
                  rw [hb.cell (p := ⟨gA, o2 + q, none⟩) h3, h, Nat.add_assoc, Nat.add_comm 1 q]
                  exact h2)
            clear hl hbe hrd hy8 htl hca hr1
            go_wp2_with fail
            refine (implBeginIrq_any (some ⟨gl, 0, none⟩) 8 cl xs j _ RL.out (by omega) _ _ HBE.out).mono ?_
            rintro e w12 ⟨A_RY, c_RY, rfl, hown, hb⟩
            rw [HY8.out] at hown ⊢
            have HWP := Lib.hid hb
            replace HW := Lib.hid (pass HW.out hb)
            replace RL := Lib.hid ((RL.out.below hb).more hb.size)
            replace RA := Lib.hid ((RA.out.below hb).more hb.size)
            have RY := Lib.hid (own_reads hown)
            clear hown hb ka
            go_wp2_with fail
            refine (implReady_any A_RY 8 c_RY ys x _ RY.out _ _ HRD.out).mono ?_
            rintro e w13 ⟨A_RT, c_RT, rfl, hown, hb⟩
            rw [HTL.out] at hown ⊢
            replace HWP := Lib.hid (pass HWP.out hb)
            replace HW := Lib.hid (pass HW.out hb)
            replace RL := Lib.hid ((RL.out.below hb).more hb.size)
            replace RA := Lib.hid ((RA.out.below hb).more hb.size)
            replace RY := Lib.hid ((RY.out.below hb).more hb.size)
            have RT := Lib.hid (own_reads hown)
            clear hown hb
            obtain ⟨o2, hite, hoe⟩ : ∃ o2, (if c_RA = 1 then (some ⟨gA, oA, none⟩ : Option Addr) else some ⟨gA, oA + 1, none⟩) = some ⟨gA, o2, none⟩ ∧ (c_RA = 1 ∨ o2 = oA + 1) := by
              by_cases h : c_RA = 1
              · exact ⟨oA, by rw [if_pos h], .inl h⟩
              · exact ⟨oA + 1, by rw [if_neg h], .inr rfl⟩
            have RU := Lib.hid (HTR.out _ HWP.out o2 hoe RAc.out)
            clear hoe
            go_wp2_with fail
            refine (vInts_same A_RT (some ⟨gA, o2, none⟩) (r1 - 1) c_RT (c_RA - 1) (ints tl) _ (by omega) RT.out RU.out).mono ?_
            rintro e w14 ⟨rfl, hb⟩
            replace HW := Lib.hid (pass HW.out hb)
            replace RL := Lib.hid ((RL.out.below hb).more hb.size)
            replace RA := Lib.hid ((RA.out.below hb).more hb.size)
            replace RY := Lib.hid ((RY.out.below hb).more hb.size)
            replace RT := Lib.hid ((RT.out.below hb).more hb.size)
            replace RU := Lib.hid ((RU.out.below hb).more hb.size)
            clear hb hite hne hnj hgt hgt1
            clear RU RT RY
            go_wp2_with fail
            refine (implServe_any (some ⟨gl, 0, none⟩) 8 cl xs x _ RL.out _ _ _ HSV.out).mono ?_
            rintro e w15 ⟨A_SA, c_SA, A_SL, c_SL, rfl, hown, hown2, hb⟩
            rw [r1_H.out] at hown
            rw [r3_H.out] at hown2
            rw [r1_H.out, r3_H.out]
            replace HW := Lib.hid (pass HW.out hb)
            replace RL := Lib.hid ((RL.out.below hb).more hb.size)
            replace RA := Lib.hid ((RA.out.below hb).more hb.size)
            have SA := Lib.hid (own_reads hown)
            have SL := Lib.hid (own_reads hown2)
            clear hown hown2 hb
            go_wp2_with fail
            refine (implMost_any A_SL 8 c_SL _ x _ SL.out _ _ HM3.out).mono ?_
            rintro e w16 ⟨rfl, hb⟩
            replace HW := Lib.hid (pass HW.out hb)
            replace RL := Lib.hid ((RL.out.below hb).more hb.size)
            replace RA := Lib.hid ((RA.out.below hb).more hb.size)
            replace SA := Lib.hid ((SA.out.below hb).more hb.size)
            replace SL := Lib.hid ((SL.out.below hb).more hb.size)
            clear hb
            go_wp2_with fail
            refine (vInts_same A_SA (some ⟨gA, oA, none⟩) r1 c_SA c_RA (ints l1) _ (by omega) SA.out RA.out).mono ?_
            rintro e w17 ⟨rfl, hb⟩
            replace HW := Lib.hid (pass HW.out hb)
            replace RL := Lib.hid ((RL.out.below hb).more hb.size)
            replace RA := Lib.hid ((RA.out.below hb).more hb.size)
            replace SA := Lib.hid ((SA.out.below hb).more hb.size)
            replace SL := Lib.hid ((SL.out.below hb).more hb.size)
            clear hb
            go_wp2_with fail
            go_meet
            exact HW
  case rest =>
    replace HW := hcut
    clear hcut RL RA RAc H1 HM1 r1_H r1_len hm
    go_wp2_with fail
    refine (drawServeAll_any _ A n c zs HZ.out (HR.out _ HW.out) hn).mono ?_
    rintro e w18 ⟨gl, m, cl, xs, x, rfl, hm, hown, hb⟩
    replace HW := Lib.hid (pass HW.out hb)
    have RL := Lib.hid (own_reads hown)
    clear hown hb
    obtain ⟨ya, hy⟩ : ∃ ya, svAns xs x = ya := ⟨_, rfl⟩
    obtain ⟨l5, y5, b5⟩ := ya
    obtain ⟨r5_len, r6_len⟩ := svAns_len hy
    obtain ⟨r5, hr5⟩ : ∃ r, l5.length = r := ⟨_, rfl⟩
    rw [hr5] at r5_len
    have r5_H := Lib.hid hr5
    clear hr5
    obtain ⟨r6, hr6⟩ : ∃ r, y5.length = r := ⟨_, rfl⟩
    rw [hr6] at r6_len
    have r6_H := Lib.hid hr6
    clear hr6
    have H5 := Lib.hid hy
    clear hy
    go_wp2_with fail
    refine (implServe_any (some ⟨gl, 0, none⟩) m cl xs x _ RL.out _ _ _ H5.out).mono ?_
    rintro e w19 ⟨A_SA, c_SA, A_SL, c_SL, rfl, hown, hown2, hb⟩
    rw [r5_H.out] at hown
    rw [r6_H.out] at hown2
    rw [r5_H.out, r6_H.out]
    replace HW := Lib.hid (pass HW.out hb)
    replace RL := Lib.hid ((RL.out.below hb).more hb.size)
    have SA := Lib.hid (own_reads hown)
    have SL := Lib.hid (own_reads hown2)
    clear hown hown2 hb
    go_wp2_with fail
    refine (specServe_any (some ⟨gl, 0, none⟩) m cl xs x _ RL.out (by omega) _ _ _ H5.out).mono ?_
    rintro e w20 ⟨A_TA, c_TA, A_TL, c_TL, rfl, hown, hown2, hb⟩
    rw [r5_H.out] at hown
    rw [r6_H.out] at hown2
    rw [r5_H.out, r6_H.out]
    replace HW := Lib.hid (pass HW.out hb)
    replace RL := Lib.hid ((RL.out.below hb).more hb.size)
    replace SA := Lib.hid ((SA.out.below hb).more hb.size)
    replace SL := Lib.hid ((SL.out.below hb).more hb.size)
    have TA := Lib.hid (own_reads hown)
    have TL := Lib.hid (own_reads hown2)
    clear hown hown2 hb
    have hnb : (b5 != b5) = false := by simp
    go_wp2_with fail
    refine (vInts_same A_SA A_TA r5 c_SA c_TA (ints l5) _ (by omega) SA.out TA.out).mono ?_
    rintro e w21 ⟨rfl, hb⟩
    replace HW := Lib.hid (pass HW.out hb)
    replace RL := Lib.hid ((RL.out.below hb).more hb.size)
    replace SA := Lib.hid ((SA.out.below hb).more hb.size)
    replace SL := Lib.hid ((SL.out.below hb).more hb.size)
    replace TA := Lib.hid ((TA.out.below hb).more hb.size)
    replace TL := Lib.hid ((TL.out.below hb).more hb.size)
    clear hb
    go_wp2_with fail
    refine (vIrqs_same A_SL A_TL r6 c_SL c_TL y5 _ (by omega) SL.out TL.out).mono ?_
    rintro e w22 ⟨rfl, hb⟩
    replace HW := Lib.hid (pass HW.out hb)
    replace RL := Lib.hid ((RL.out.below hb).more hb.size)
    replace SA := Lib.hid ((SA.out.below hb).more hb.size)
    replace SL := Lib.hid ((SL.out.below hb).more hb.size)
    replace TA := Lib.hid ((TA.out.below hb).more hb.size)
    replace TL := Lib.hid ((TL.out.below hb).more hb.size)
    clear hb
    clear RL SA SL TA TL
    clear hnb H5 r5_H r6_H r5_len r6_len hm
    go_wp2_with fail
    refine (drawPriorityMask_any _ A n c zs HZ.out (HR.out _ HW.out) hn).mono ?_
    rintro e w23 ⟨gl, m, cl, xs, x, y, rfl, hm, hown, hb⟩
    replace HW := Lib.hid (pass HW.out hb)
    have RL := Lib.hid (own_reads hown)
    clear hown hb
    obtain ⟨ya, hy⟩ : ∃ ya, pmAns xs x y = ya := ⟨_, rfl⟩
    obtain ⟨l7, b7⟩ := ya
    have r7_len := pmAns_len hy
    obtain ⟨r7, hr7⟩ : ∃ r, l7.length = r := ⟨_, rfl⟩
    rw [hr7] at r7_len
    have r7_H := Lib.hid hr7
    clear hr7
    have H7 := Lib.hid hy
    clear hy
    go_wp2_with fail
    refine (implMask_any (some ⟨gl, 0, none⟩) m cl xs x y _ RL.out _ _ H7.out).mono ?_
    rintro e w24 ⟨A_RA, c_RA, rfl, hown, hb⟩
    rw [r7_H.out] at hown ⊢
    replace HW := Lib.hid (pass HW.out hb)
    replace RL := Lib.hid ((RL.out.below hb).more hb.size)
    have RA := Lib.hid (own_reads hown)
    clear hb
    clear hown
    go_wp2_with fail
    refine (specMask_any (some ⟨gl, 0, none⟩) m cl xs x y _ RL.out (by omega) _ _ H7.out).mono ?_
    rintro e w25 ⟨A_RB, c_RB, rfl, hown, hb⟩
    rw [r7_H.out] at hown ⊢
    replace HW := Lib.hid (pass HW.out hb)
    replace RL := Lib.hid ((RL.out.below hb).more hb.size)
    replace RA := Lib.hid ((RA.out.below hb).more hb.size)
    have RB := Lib.hid (own_reads hown)
    clear hb
    clear hown
    go_wp2_with fail
    refine (vInts_same A_RA A_RB r7 c_RA c_RB (ints l7) _ (by omega) RA.out RB.out).mono ?_
    rintro e w26 ⟨rfl, hb⟩
    replace HW := Lib.hid (pass HW.out hb)
    replace RL := Lib.hid ((RL.out.below hb).more hb.size)
    replace RA := Lib.hid ((RA.out.below hb).more hb.size)
    replace RB := Lib.hid ((RB.out.below hb).more hb.size)
    clear hb
    go_wp2_with fail
    go_ret
    exact ⟨by simp, HW.out⟩

set_option maxHeartbeats 4000000 in
set_option maxRecDepth 100000 in
/-- the law's Go text returns true, and nothing that was there has turned -/
theorem walk {H : Type} {enc : TypeId × Value → H} (W : World) (base : Nat) (v0 : Value) (d0 : DataW H) (p0 : List MemPlace) (q0 : Value.okWide Try.prog W .any base 48 v0) (h0 : DataW.Trod enc Try.prog W 0 (fun _ => true) true 48 v0 d0 p0) (l0 : ∀ x ∈ p0, x.block < W.heap.size) (hL : laidMetH Try.prog Rows.fnDistributorRow.laid W) (hsh : W.ShapedOpen Try.prog) :
    Calls Try.prog 13 #[v0] W fun e W' => e = .returned (.bool true) ∧ Below W.heap.size W W' := by
  clear hsh
  obtain ⟨A, n, c, zs, rfl, hc, hcm, hl, hwf, hr⟩ := open_nums Try.underlying48 Try.underlying5 (by kernel_rfl) q0 h0
  exact walk0 W A n c zs (fun z hz => bounds_u8 (hwf z hz)) hr
theorem laid_met (os : Os) : laidMetH Try.prog Rows.fnDistributorRow.laid ((World.holding Try.prog os ⟨#[], #[], []⟩).forCall (fun _ _ => 0) ⟨#[], #[(.slice none 0 0 : Value)], []⟩).memory := ⟨[], rfl, List.nodup_nil, fun _ _ h => by cases h⟩
theorem reads (os : Os) {H : Type} (enc : TypeId × Value → H) : (DataW.whole enc Try.prog ((World.holding Try.prog os ⟨#[], #[], []⟩).forCall (fun _ _ => 0) ⟨#[], #[(.slice none 0 0 : Value)], []⟩).memory Try.f13.params.toList Rows.fnDistributorSpec.vars false #[(.slice none 0 0 : Value)].toList 8).isSome = true := by kernel_rfl
set_option maxRecDepth 100000 in
theorem lifted (os : Os) (started : os.Started) (H : Type) (enc : TypeId × Value → H) (F : Stop.Interp) :
    ReturnsInHanded {} Try.checked os 13 .any ((OpenSpec.ofChange Rows.fnDistributorSpec).preRow enc Try.prog Try.f13 Rows.fnDistributorRow.domain false Rows.fnDistributorRow.laid) (((OpenSpec.ofChange Rows.fnDistributorSpec).at F).post enc Try.prog Try.f13 false true false false) := by
  obtain ⟨x, hx⟩ := Option.isSome_iff_exists.1 (reads os enc)
  refine returnsInHanded_of_row (C := Try.checked) (s := OpenSpec.ofChange Rows.fnDistributorSpec) own started (by kernel_rfl) Try.func13
    (witness_row_at (enc := enc) (C := Try.checked) false (World.holding Try.prog os ⟨#[], #[], []⟩) #[(.slice none 0 0 : Value)] rfl (by kernel_rfl) (by kernel_rfl) (by kernel_rfl)
      (OpenSpec.preRow_of_cond 8 hx (by rfl) (fun k hk => by cases hk) (by kernel_rfl) (laid_met os))) ?_
  intro W base args ds gs before hval0 hW _ hcond hsz hL hsh _
  have hval : ∀ (j : Nat) t v, Try.f13.params[j]? = some t → args[j]? = some v → Value.okWide Try.prog W .any base t v := hval0
  have hW' := hW
  obtain ⟨p, q, hA0, hV, rfl, hfz, hnd⟩ := hW
  have hA : DataW.TrodAll enc Try.prog W 0 (fun _ => true) true Try.f13.params.toList args.toList ds p := hA0
  rw [Try.params13] at hA hval
  obtain ⟨v0, vs0, d0, ds0, p0, q0, hargs, rfl, rfl, h0, r0⟩ := trodAll_cons hA
  obtain ⟨rfl, rfl, rfl⟩ := trodAll_nil r0
  obtain rfl : args = #[v0] := by cases args; simp_all
  obtain ⟨rfl, rfl⟩ := trodVars_none hV
  clear hA0 hval0
  simp only [List.append_nil] at hW'
  refine (walk (enc := enc) W base v0 d0 p0 (hval 0 48 v0 rfl rfl) h0 (fun x hx => hW'.lt x (by simp [hx])) hL hsh).mono fun e W' ⟨he, hb⟩ => ⟨_, he, Fr.post_true laidOut (by kernel_rfl) (by kernel_rfl) Try.underlying4 rfl hW' (fun xs hx => by match xs, hx with | [x0], _ => rfl) hb⟩
theorem said : Rows.FnDistributorSaid :=
  OpenClaim.holds_of_cond 13 Try.f13 rfl rfl rfl rfl rfl rfl rfl ⟨rfl, rfl, rfl, rfl, rfl⟩ rfl rfl rfl rfl rfl (by kernel_rfl) Try.func13 (by kernel_rfl)
    (of_decide_eq_true (by kernel_rfl)) (by unfold Func.isWrapper; first | (rw [if_pos (by decide +kernel)]; kernel_rfl) | (rw [if_neg (by decide +kernel)]; exact ⟨rfl, rfl⟩))
    (fun os started H enc _ F => by rw [OpenClaim.pre_eq_preRow]; exact lifted os started H enc F)
#print axioms said
end Go.Proofs.Ytclnhdjnmfkeaaa.fnDistributor
