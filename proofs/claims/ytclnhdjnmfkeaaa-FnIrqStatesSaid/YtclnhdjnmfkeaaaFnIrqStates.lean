/- For every code the law FnIrqStates returns true. -/
import Derived.Test.YtclnhdjnmfkeaaaRows
import Derived.Test.YtclnhdjnmfkeaaaFrame
import Derived.Test.YtclnhdjnmfkeaaaDr6
import Derived.Test.YtclnhdjnmfkeaaaVIrq
import Derived.Test.YtclnhdjnmfkeaaaVInt
import Derived.Test.YtclnhdjnmfkeaaaDcBeginIrqI
import Derived.Test.YtclnhdjnmfkeaaaDcBeginIrqS
import Derived.Test.YtclnhdjnmfkeaaaDcEndIrqI
import Derived.Test.YtclnhdjnmfkeaaaDcEndIrqS
import Derived.Test.YtclnhdjnmfkeaaaDcSetPendingI
import Derived.Test.YtclnhdjnmfkeaaaDcSetPendingS
import Derived.Test.YtclnhdjnmfkeaaaDcEnableIrqI
import Derived.Test.YtclnhdjnmfkeaaaDcEnableIrqS
import Derived.Test.YtclnhdjnmfkeaaaDcRouteIrqI
import Derived.Test.YtclnhdjnmfkeaaaDcRouteIrqS
import Derived.Deep.Cut
namespace Go.Proofs.Ytclnhdjnmfkeaaa.fnIrqStates
open Go.ChangeShapes Go.WideShapes Go.ChangeAt Go.RowKit
open Go.ChangeMaps (open_string shut_string)
open Go Go.Proofs.Ytclnhdjnmfkeaaa.L6 Go.Proofs.Ytclnhdjnmfkeaaa.Mem Go.Proofs.Ytclnhdjnmfkeaaa.Own Go.Proofs.Ytclnhdjnmfkeaaa.Draw
set_option linter.unusedVariables false
theorem own : ownKnob Try.prog.godebug = none := by kernel_rfl
theorem laidOut : laidOutB Try.prog = true := by kernel_rfl
theorem pass {w w1 w2 : World} (h : Below w.heap.size w w1) (k : Below w1.heap.size w1 w2) : Below w.heap.size w w2 := h.trans (k.mono h.size)
theorem chAns_inv {xs : List Irq} {i : Int} {c : Irq → Bool} {f : Irq → Irq} {l : List Irq} (h : chAns xs i c f = (l, true)) : ∃ (j : Nat) (x : Irq), i = j ∧ j < 8 ∧ xs[j]? = some x ∧ OkL xs ∧ c x = true ∧ l = xs.set j (f x) ∧ l[j]? = some (f x) ∧ l.length = 8 := by
  unfold chAns at h
  split at h
  · rename_i hh
    obtain ⟨h1, h2, h3⟩ := hh
    obtain rfl := congrArg Prod.fst h
    obtain ⟨j, rfl⟩ : ∃ j : Nat, i = j := ⟨i.toNat, by omega⟩
    have hj : j < xs.length := by rw [h1.1]; omega
    rw [Int.toNat_natCast] at h3 ⊢
    have hx : xs[j]? = some xs[j] := List.getElem?_eq_getElem hj
    rw [getD_at hx] at h3 ⊢
    exact ⟨j, xs[j], rfl, by omega, hx, h1, h3, rfl, List.getElem?_set_self hj, by simp only [List.length_set]; exact h1.1⟩
  · cases congrArg Prod.snd h
theorem chAns_at {xs : List Irq} {j : Nat} {c : Irq → Bool} {f : Irq → Irq} {x : Irq} (ho : OkL xs) (hj : j < 8) (hx : xs[j]? = some x) (hc : c x = true) : chAns xs j c f = (xs.set j (f x), true) := by
  unfold chAns
  rw [Int.toNat_natCast, getD_at hx, if_pos ⟨ho, by omega, hc⟩]
theorem chAns_fail {xs : List Irq} {j : Nat} {c : Irq → Bool} {f : Irq → Irq} {x : Irq} (hx : xs[j]? = some x) (hc : c x = false) : chAns xs j c f = ([], false) := by
  unfold chAns
  rw [Int.toNat_natCast, getD_at hx, if_neg (fun hh => by rw [hc] at hh; cases hh.2.2)]
theorem set_back {xs : List Irq} {j : Nat} {x : Irq} (hx : xs[j]? = some x) : xs.set j x = xs := by
  apply List.ext_getElem?
  intro i
  by_cases h : j = i
  · subst h
    rw [List.getElem?_set_self (List.getElem?_eq_some_iff.1 hx).1, hx]
  · rw [List.getElem?_set_ne h]
set_option maxRecDepth 100000 in
set_option maxHeartbeats 8000000 in
theorem walk0 (W : World) (A : Option Addr) (n c : Nat) (zs : List Int) (hz : ∀ z ∈ zs, 0 ≤ z ∧ z ≤ 255) (hr : Reads W W.heap.size 1 A n (zs.map (Value.int .u8))) :
    Calls Try.prog 14 #[.slice A n c] W fun e W' => e = .returned (.bool true) ∧ Below W.heap.size W W' := by
  by_cases h1 : (65536 : Int) < n
  · have hv := vBig_any A n c W
    rw [decide_eq_true h1] at hv
    have HV := Lib.hid hv
    clear hv hr
    go_enter Try.func14, Try.ntmps14
    go_wp2_with fail
    refine HV.out.mono ?_
    rintro e w1 ⟨rfl, rfl⟩
    go_wp2_with fail
    go_ret
    exact ⟨rfl, Below.refl _ _⟩
  have hv := vBig_any A n c W
  rw [decide_eq_false h1] at hv
  have HV := Lib.hid hv
  have hn : n ≤ 1000000 := by omega
  have HR := Lib.hid fun (w : World) (hb : Below W.heap.size W w) => (show Reads w w.heap.size 1 A n (zs.map (Value.int .u8)) from (hr.below hb).more hb.size)
  have HZ := Lib.hid hz
  have HW := Lib.hid (Below.refl W.heap.size W)
  clear hv hr hz h1
  go_enter Try.func14, Try.ntmps14
  go_wp2_with fail
  refine HV.out.mono ?_
  rintro e w0 ⟨rfl, rfl⟩
  clear HV
  go_wp2_with fail
  refine (drawBeginIrq_any _ A n c zs HZ.out (HR.out _ HW.out) hn).mono ?_
  rintro e w1 ⟨gl, m, cl, xs, x, rfl, hm, hown, hb⟩
  replace HW := Lib.hid (pass HW.out hb)
  have RL := Lib.hid (own_reads hown)
  clear hown hb
  obtain ⟨ya, hy⟩ : ∃ ya, chAns xs x rdyOwn (fun x => { x with ac := true, pe := false }) = ya := ⟨_, rfl⟩
  obtain ⟨l1, b1⟩ := ya
  have r1_len := chAns_len hy
  obtain ⟨r1, hr1⟩ : ∃ r, l1.length = r := ⟨_, rfl⟩
  rw [hr1] at r1_len
  have r1_H := Lib.hid hr1
  have H1 := Lib.hid hy
  clear hy hr1
  go_wp2_with fail
  refine (implBeginIrq_any (some ⟨gl, 0, none⟩) m cl xs x  _ RL.out (by omega) _ _ H1.out).mono ?_
  rintro e w2 ⟨A_RO, c_RO, rfl, hown, hb⟩
  rw [r1_H.out] at hown ⊢
  replace HW := Lib.hid (pass HW.out hb)
  replace RL := Lib.hid ((RL.out.below hb).more hb.size)
  have RO := Lib.hid (own_reads hown)
  clear hown hb
  go_wp2_with fail
  refine (specBeginIrq_any (some ⟨gl, 0, none⟩) m cl xs x  _ RL.out (by omega) _ _ H1.out).mono ?_
  rintro e w3 ⟨A_RS, c_RS, rfl, hown, hb⟩
  rw [r1_H.out] at hown ⊢
  replace HW := Lib.hid (pass HW.out hb)
  replace RL := Lib.hid ((RL.out.below hb).more hb.size)
  replace RO := Lib.hid ((RO.out.below hb).more hb.size)
  have RS := Lib.hid (own_reads hown)
  clear hown hb
  have hnb : (b1 != b1) = false := by simp
  go_wp2_with fail
  refine (vIrqs_same A_RO A_RS r1 c_RO c_RS l1 _ (by omega) RO.out RS.out).mono ?_
  rintro e w4 ⟨rfl, hb⟩
  replace HW := Lib.hid (pass HW.out hb)
  replace RL := Lib.hid ((RL.out.below hb).more hb.size)
  replace RO := Lib.hid ((RO.out.below hb).more hb.size)
  replace RS := Lib.hid ((RS.out.below hb).more hb.size)
  clear hb
  clear RS
  clear hnb
  go_upto_if 71 with fail
  go_cut [] from 43 (fun wx => Hid (Below W.heap.size W wx))
  case first =>
    cases b1 with
    | false =>
      go_wp2_with fail
      go_meet
      exact HW
    | true =>
      obtain ⟨j, y, rfl, hj, hy, hok, hc, hl, hly, hl8⟩ := chAns_inv H1.out
      have hr8 : r1 = 8 := by rw [← r1_H.out]; exact hl8
      subst hr8
      have hm8 : m = 8 := by rw [← reads_len RL.out]; exact hok.1
      subst hm8
      have hxa : y.ac = false := by
        simp only [rdyOwn, Bool.and_eq_true, Bool.not_eq_true'] at hc
        exact hc.2.2
      have hxp : y.pe = true := by
        simp only [rdyOwn, Bool.and_eq_true, Bool.not_eq_true'] at hc
        exact hc.2.1
      have hok1 : OkL l1 := by rw [hl]; exact set_ok hok (hok.2 y (List.mem_of_getElem? hy))
      have he : chAns l1 j (fun x => x.ac) (fun x => { x with ac := false }) = (l1.set j { y with ac := false, pe := false }, true) := chAns_at hok1 hj hly rfl
      have hok2 : OkL (l1.set j { y with ac := false, pe := false }) := set_ok hok1 (hok.2 y (List.mem_of_getElem? hy))
      have hl2y : (l1.set j { y with ac := false, pe := false })[j]? = some { y with ac := false, pe := false } := List.getElem?_set_self (by rw [hl8]; exact hj)
      have hp : chAns (l1.set j { y with ac := false, pe := false }) j (fun _ => true) (fun x => { x with pe := true }) = (xs, true) := by
        rw [chAns_at hok2 hj hl2y rfl, List.set_set, hl, List.set_set]
        have : ({ y with ac := false, pe := true } : Irq) = y := by
          obtain ⟨a, b, c, d, f⟩ := y
          simp only at hxa hxp
          rw [hxa, hxp]
        simp only
        rw [this, set_back hy]
      have hz2 : chAns l1 j rdyOwn (fun x => { x with ac := true, pe := false }) = ([], false) := chAns_fail hly (by simp [rdyOwn])
      have H2 := Lib.hid he
      have H3 := Lib.hid hp
      have H4 := Lib.hid hz2
      obtain ⟨l2, hl2⟩ : ∃ l2, l1.set j { y with ac := false, pe := false } = l2 := ⟨_, rfl⟩
      rw [hl2] at H2 H3 hok2
      have H28 : Hid (l2.length = 8) := Lib.hid hok2.1
      have HX8 : Hid (xs.length = 8) := Lib.hid hok.1
      have HLY := Lib.hid hly
      have hjz : (j : Int) < 8 := by omega
      clear hy hok hc hl hly hl8 hxa hxp hok1 he hok2 hl2y hp hz2 hl2
      go_wp2_with fail
      refine (implEndIrq_any A_RO 8 c_RO l1 j  _ RO.out (by omega) _ _ H2.out).mono ?_
      rintro e w5 ⟨A_RE, c_RE, rfl, hown, hb⟩
      rw [H28.out] at hown ⊢
      replace HW := Lib.hid (pass HW.out hb)
      replace RL := Lib.hid ((RL.out.below hb).more hb.size)
      replace RO := Lib.hid ((RO.out.below hb).more hb.size)
      have RE := Lib.hid (own_reads hown)
      clear hown hb
      go_wp2_with fail
      refine (implSetPending_any A_RE 8 c_RE l2 j true _ RE.out (by omega) _ _ H3.out).mono ?_
      rintro e w6 ⟨A_RP, c_RP, rfl, hown, hb⟩
      rw [HX8.out] at hown ⊢
      replace HW := Lib.hid (pass HW.out hb)
      replace RL := Lib.hid ((RL.out.below hb).more hb.size)
      replace RO := Lib.hid ((RO.out.below hb).more hb.size)
      replace RE := Lib.hid ((RE.out.below hb).more hb.size)
      have RP := Lib.hid (own_reads hown)
      clear hown hb
      obtain ⟨b9, o9, z, rfl, _, hu, _, q1, q2, _, _⟩ := irq_at RO.out hj
      have hzz := Option.some.inj (HLY.out.symm.trans hu)
      subst hzz
      simp only at q1 q2
      clear hu
      go_wp2_with fail
      refine (vIrqs_same A_RP (some ⟨gl, 0, none⟩) 8 c_RP cl xs _ (by omega) RP.out RL.out).mono ?_
      rintro e w7 ⟨rfl, hb⟩
      replace HW := Lib.hid (pass HW.out hb)
      replace RL := Lib.hid ((RL.out.below hb).more hb.size)
      replace RO := Lib.hid ((RO.out.below hb).more hb.size)
      replace RE := Lib.hid ((RE.out.below hb).more hb.size)
      replace RP := Lib.hid ((RP.out.below hb).more hb.size)
      clear hb
      clear q1 q2
      go_wp2_with fail
      refine (implBeginIrq_any _ 8 c_RO l1 j _ RO.out (by omega) _ _ H4.out).mono ?_
      rintro e w8 ⟨A_q, c_q, rfl, hown, hb⟩
      replace HW := Lib.hid (pass HW.out hb)
      clear hown hb
      go_wp2_with fail
      go_meet
      exact HW
  case rest =>
    replace HW := hcut
    clear hcut RL RO H1 r1_H r1_len
    clear hm
    go_wp2_with fail
    refine (drawEndIrq_any _ A n c zs HZ.out (HR.out _ HW.out) hn).mono ?_
    rintro e w9 ⟨gl, m, cl, xs, x, rfl, hm, hown, hb⟩
    replace HW := Lib.hid (pass HW.out hb)
    have RL := Lib.hid (own_reads hown)
    clear hown hb
    obtain ⟨ya, hy⟩ : ∃ ya, chAns xs x (fun x => x.ac) (fun x => { x with ac := false }) = ya := ⟨_, rfl⟩
    obtain ⟨l2, b2⟩ := ya
    have r2_len := chAns_len hy
    obtain ⟨r2, hr2⟩ : ∃ r, l2.length = r := ⟨_, rfl⟩
    rw [hr2] at r2_len
    have r2_H := Lib.hid hr2
    have H2 := Lib.hid hy
    clear hy hr2
    go_wp2_with fail
    refine (implEndIrq_any (some ⟨gl, 0, none⟩) m cl xs x  _ RL.out (by omega) _ _ H2.out).mono ?_
    rintro e w10 ⟨A_RO, c_RO, rfl, hown, hb⟩
    rw [r2_H.out] at hown ⊢
    replace HW := Lib.hid (pass HW.out hb)
    replace RL := Lib.hid ((RL.out.below hb).more hb.size)
    have RO := Lib.hid (own_reads hown)
    clear hown hb
    go_wp2_with fail
    refine (specEndIrq_any (some ⟨gl, 0, none⟩) m cl xs x  _ RL.out (by omega) _ _ H2.out).mono ?_
    rintro e w11 ⟨A_RS, c_RS, rfl, hown, hb⟩
    rw [r2_H.out] at hown ⊢
    replace HW := Lib.hid (pass HW.out hb)
    replace RL := Lib.hid ((RL.out.below hb).more hb.size)
    replace RO := Lib.hid ((RO.out.below hb).more hb.size)
    have RS := Lib.hid (own_reads hown)
    clear hown hb
    have hnb : (b2 != b2) = false := by simp
    go_wp2_with fail
    refine (vIrqs_same A_RO A_RS r2 c_RO c_RS l2 _ (by omega) RO.out RS.out).mono ?_
    rintro e w12 ⟨rfl, hb⟩
    replace HW := Lib.hid (pass HW.out hb)
    replace RL := Lib.hid ((RL.out.below hb).more hb.size)
    replace RO := Lib.hid ((RO.out.below hb).more hb.size)
    replace RS := Lib.hid ((RS.out.below hb).more hb.size)
    clear hb
    clear RL RO RS
    clear hnb H2 r2_H r2_len hm
    go_wp2_with fail
    refine (drawSetPending_any _ A n c zs HZ.out (HR.out _ HW.out) hn).mono ?_
    rintro e w13 ⟨gl, m, cl, xs, x, y, rfl, hm, hown, hb⟩
    replace HW := Lib.hid (pass HW.out hb)
    have RL := Lib.hid (own_reads hown)
    clear hown hb
    obtain ⟨ya, hy⟩ : ∃ ya, chAns xs x (fun _ => true) (fun x => { x with pe := y }) = ya := ⟨_, rfl⟩
    obtain ⟨l3, b3⟩ := ya
    have r3_len := chAns_len hy
    obtain ⟨r3, hr3⟩ : ∃ r, l3.length = r := ⟨_, rfl⟩
    rw [hr3] at r3_len
    have r3_H := Lib.hid hr3
    have H3 := Lib.hid hy
    clear hy hr3
    go_wp2_with fail
    refine (implSetPending_any (some ⟨gl, 0, none⟩) m cl xs x y _ RL.out (by omega) _ _ H3.out).mono ?_
    rintro e w14 ⟨A_RO, c_RO, rfl, hown, hb⟩
    rw [r3_H.out] at hown ⊢
    replace HW := Lib.hid (pass HW.out hb)
    replace RL := Lib.hid ((RL.out.below hb).more hb.size)
    have RO := Lib.hid (own_reads hown)
    clear hown hb
    go_wp2_with fail
    refine (specSetPending_any (some ⟨gl, 0, none⟩) m cl xs x y _ RL.out (by omega) _ _ H3.out).mono ?_
    rintro e w15 ⟨A_RS, c_RS, rfl, hown, hb⟩
    rw [r3_H.out] at hown ⊢
    replace HW := Lib.hid (pass HW.out hb)
    replace RL := Lib.hid ((RL.out.below hb).more hb.size)
    replace RO := Lib.hid ((RO.out.below hb).more hb.size)
    have RS := Lib.hid (own_reads hown)
    clear hown hb
    have hnb : (b3 != b3) = false := by simp
    go_wp2_with fail
    refine (vIrqs_same A_RO A_RS r3 c_RO c_RS l3 _ (by omega) RO.out RS.out).mono ?_
    rintro e w16 ⟨rfl, hb⟩
    replace HW := Lib.hid (pass HW.out hb)
    replace RL := Lib.hid ((RL.out.below hb).more hb.size)
    replace RO := Lib.hid ((RO.out.below hb).more hb.size)
    replace RS := Lib.hid ((RS.out.below hb).more hb.size)
    clear hb
    clear RL RO RS
    clear hnb H3 r3_H r3_len hm
    go_wp2_with fail
    refine (drawEnableIrq_any _ A n c zs HZ.out (HR.out _ HW.out) hn).mono ?_
    rintro e w17 ⟨gl, m, cl, xs, x, y, rfl, hm, hown, hb⟩
    replace HW := Lib.hid (pass HW.out hb)
    have RL := Lib.hid (own_reads hown)
    clear hown hb
    obtain ⟨ya, hy⟩ : ∃ ya, chAns xs x (fun _ => true) (fun x => { x with en := y }) = ya := ⟨_, rfl⟩
    obtain ⟨l4, b4⟩ := ya
    have r4_len := chAns_len hy
    obtain ⟨r4, hr4⟩ : ∃ r, l4.length = r := ⟨_, rfl⟩
    rw [hr4] at r4_len
    have r4_H := Lib.hid hr4
    have H4 := Lib.hid hy
    clear hy hr4
    go_wp2_with fail
    refine (implEnableIrq_any (some ⟨gl, 0, none⟩) m cl xs x y _ RL.out (by omega) _ _ H4.out).mono ?_
    rintro e w18 ⟨A_RO, c_RO, rfl, hown, hb⟩
    rw [r4_H.out] at hown ⊢
    replace HW := Lib.hid (pass HW.out hb)
    replace RL := Lib.hid ((RL.out.below hb).more hb.size)
    have RO := Lib.hid (own_reads hown)
    clear hown hb
    go_wp2_with fail
    refine (specEnableIrq_any (some ⟨gl, 0, none⟩) m cl xs x y _ RL.out (by omega) _ _ H4.out).mono ?_
    rintro e w19 ⟨A_RS, c_RS, rfl, hown, hb⟩
    rw [r4_H.out] at hown ⊢
    replace HW := Lib.hid (pass HW.out hb)
    replace RL := Lib.hid ((RL.out.below hb).more hb.size)
    replace RO := Lib.hid ((RO.out.below hb).more hb.size)
    have RS := Lib.hid (own_reads hown)
    clear hown hb
    have hnb : (b4 != b4) = false := by simp
    go_wp2_with fail
    refine (vIrqs_same A_RO A_RS r4 c_RO c_RS l4 _ (by omega) RO.out RS.out).mono ?_
    rintro e w20 ⟨rfl, hb⟩
    replace HW := Lib.hid (pass HW.out hb)
    replace RL := Lib.hid ((RL.out.below hb).more hb.size)
    replace RO := Lib.hid ((RO.out.below hb).more hb.size)
    replace RS := Lib.hid ((RS.out.below hb).more hb.size)
    clear hb
    clear RL RO RS
    clear hnb H4 r4_H r4_len hm
    go_wp2_with fail
    refine (drawRouteIrq_any _ A n c zs HZ.out (HR.out _ HW.out) hn).mono ?_
    rintro e w21 ⟨gl, m, cl, xs, x, y, z, rfl, hm, hown, hb⟩
    replace HW := Lib.hid (pass HW.out hb)
    have RL := Lib.hid (own_reads hown)
    clear hown hb
    obtain ⟨ya, hy⟩ : ∃ ya, chAns xs x (fun x => !x.ac && decide ((0 ≤ y ∧ y < 16) ∧ (0 ≤ z ∧ z < 4))) (fun x => { x with pr := y, tg := z }) = ya := ⟨_, rfl⟩
    obtain ⟨l5, b5⟩ := ya
    have r5_len := chAns_len hy
    obtain ⟨r5, hr5⟩ : ∃ r, l5.length = r := ⟨_, rfl⟩
    rw [hr5] at r5_len
    have r5_H := Lib.hid hr5
    have H5 := Lib.hid hy
    clear hy hr5
    go_wp2_with fail
    refine (implRouteIrq_any (some ⟨gl, 0, none⟩) m cl xs x y z _ RL.out (by omega) _ _ H5.out).mono ?_
    rintro e w22 ⟨A_RO, c_RO, rfl, hown, hb⟩
    rw [r5_H.out] at hown ⊢
    replace HW := Lib.hid (pass HW.out hb)
    replace RL := Lib.hid ((RL.out.below hb).more hb.size)
    have RO := Lib.hid (own_reads hown)
    clear hown hb
    go_wp2_with fail
    refine (specRouteIrq_any (some ⟨gl, 0, none⟩) m cl xs x y z _ RL.out (by omega) _ _ H5.out).mono ?_
    rintro e w23 ⟨A_RS, c_RS, rfl, hown, hb⟩
    rw [r5_H.out] at hown ⊢
    replace HW := Lib.hid (pass HW.out hb)
    replace RL := Lib.hid ((RL.out.below hb).more hb.size)
    replace RO := Lib.hid ((RO.out.below hb).more hb.size)
    have RS := Lib.hid (own_reads hown)
    clear hown hb
    cases b5 with
    | false =>
      go_wp2_with fail
      refine (vIrqs_same A_RO A_RS r5 c_RO c_RS l5 _ (by omega) RO.out RS.out).mono ?_
      rintro e w24 ⟨rfl, hb⟩
      replace HW := Lib.hid (pass HW.out hb)
      replace RL := Lib.hid ((RL.out.below hb).more hb.size)
      replace RO := Lib.hid ((RO.out.below hb).more hb.size)
      replace RS := Lib.hid ((RS.out.below hb).more hb.size)
      clear hb
      go_wp2_with fail
      go_ret
      exact ⟨rfl, HW.out⟩
    | true =>
      obtain ⟨j, u, rfl, hj, hy, hok, hc, hl, hly, hl8⟩ := chAns_inv H5.out
      have hr8 : r5 = 8 := by rw [← r5_H.out]; exact hl8
      subst hr8
      have hjz : (j : Int) < 8 := by omega
      have HLY := Lib.hid hly
      clear hy hok hc hl hly hl8
      go_wp2_with fail
      refine (vIrqs_same A_RO A_RS 8 c_RO c_RS l5 _ (by omega) RO.out RS.out).mono ?_
      rintro e w25 ⟨rfl, hb⟩
      replace HW := Lib.hid (pass HW.out hb)
      replace RL := Lib.hid ((RL.out.below hb).more hb.size)
      replace RO := Lib.hid ((RO.out.below hb).more hb.size)
      replace RS := Lib.hid ((RS.out.below hb).more hb.size)
      clear hb
      obtain ⟨b9, o9, v, e9, _, hu, _, _, _, q3, q4⟩ := irq_at RO.out hj
      have hzz := Option.some.inj (HLY.out.symm.trans hu)
      subst hzz
      subst e9
      simp only at q3 q4
      clear hu
      go_wp2_with fail
      go_ret
      exact ⟨rfl, HW.out⟩

set_option maxHeartbeats 4000000 in
set_option maxRecDepth 100000 in
/-- the law's Go text returns true, and nothing that was there has turned -/
theorem walk {H : Type} {enc : TypeId × Value → H} (W : World) (base : Nat) (v0 : Value) (d0 : DataW H) (p0 : List MemPlace) (q0 : Value.okWide Try.prog W .any base 48 v0) (h0 : DataW.Trod enc Try.prog W 0 (fun _ => true) true 48 v0 d0 p0) (l0 : ∀ x ∈ p0, x.block < W.heap.size) (hL : laidMetH Try.prog Rows.fnIrqStatesRow.laid W) (hsh : W.ShapedOpen Try.prog) :
    Calls Try.prog 14 #[v0] W fun e W' => e = .returned (.bool true) ∧ Below W.heap.size W W' := by
  clear hsh
  obtain ⟨A, n, c, zs, rfl, hc, hcm, hl, hwf, hr⟩ := open_nums Try.underlying48 Try.underlying5 (by kernel_rfl) q0 h0
  exact walk0 W A n c zs (fun z hz => bounds_u8 (hwf z hz)) hr
theorem laid_met (os : Os) : laidMetH Try.prog Rows.fnIrqStatesRow.laid ((World.holding Try.prog os ⟨#[], #[], []⟩).forCall (fun _ _ => 0) ⟨#[], #[(.slice none 0 0 : Value)], []⟩).memory := ⟨[], rfl, List.nodup_nil, fun _ _ h => by cases h⟩
theorem reads (os : Os) {H : Type} (enc : TypeId × Value → H) : (DataW.whole enc Try.prog ((World.holding Try.prog os ⟨#[], #[], []⟩).forCall (fun _ _ => 0) ⟨#[], #[(.slice none 0 0 : Value)], []⟩).memory Try.f14.params.toList Rows.fnIrqStatesSpec.vars false #[(.slice none 0 0 : Value)].toList 8).isSome = true := by kernel_rfl
set_option maxRecDepth 100000 in
theorem lifted (os : Os) (started : os.Started) (H : Type) (enc : TypeId × Value → H) (F : Stop.Interp) :
    ReturnsInHanded {} Try.checked os 14 .any ((OpenSpec.ofChange Rows.fnIrqStatesSpec).preRow enc Try.prog Try.f14 Rows.fnIrqStatesRow.domain false Rows.fnIrqStatesRow.laid) (((OpenSpec.ofChange Rows.fnIrqStatesSpec).at F).post enc Try.prog Try.f14 false true false false) := by
  obtain ⟨x, hx⟩ := Option.isSome_iff_exists.1 (reads os enc)
  refine returnsInHanded_of_row (C := Try.checked) (s := OpenSpec.ofChange Rows.fnIrqStatesSpec) own started (by kernel_rfl) Try.func14
    (witness_row_at (enc := enc) (C := Try.checked) false (World.holding Try.prog os ⟨#[], #[], []⟩) #[(.slice none 0 0 : Value)] rfl (by kernel_rfl) (by kernel_rfl) (by kernel_rfl)
      (OpenSpec.preRow_of_cond 8 hx (by rfl) (fun k hk => by cases hk) (by kernel_rfl) (laid_met os))) ?_
  intro W base args ds gs before hval0 hW _ hcond hsz hL hsh _
  have hval : ∀ (j : Nat) t v, Try.f14.params[j]? = some t → args[j]? = some v → Value.okWide Try.prog W .any base t v := hval0
  have hW' := hW
  obtain ⟨p, q, hA0, hV, rfl, hfz, hnd⟩ := hW
  have hA : DataW.TrodAll enc Try.prog W 0 (fun _ => true) true Try.f14.params.toList args.toList ds p := hA0
  rw [Try.params14] at hA hval
  obtain ⟨v0, vs0, d0, ds0, p0, q0, hargs, rfl, rfl, h0, r0⟩ := trodAll_cons hA
  obtain ⟨rfl, rfl, rfl⟩ := trodAll_nil r0
  obtain rfl : args = #[v0] := by cases args; simp_all
  obtain ⟨rfl, rfl⟩ := trodVars_none hV
  clear hA0 hval0
  simp only [List.append_nil] at hW'
  refine (walk (enc := enc) W base v0 d0 p0 (hval 0 48 v0 rfl rfl) h0 (fun x hx => hW'.lt x (by simp [hx])) hL hsh).mono fun e W' ⟨he, hb⟩ => ⟨_, he, Fr.post_true laidOut (by kernel_rfl) (by kernel_rfl) Try.underlying4 rfl hW' (fun xs hx => by match xs, hx with | [x0], _ => rfl) hb⟩
theorem said : Rows.FnIrqStatesSaid :=
  OpenClaim.holds_of_cond 14 Try.f14 rfl rfl rfl rfl rfl rfl rfl ⟨rfl, rfl, rfl, rfl, rfl⟩ rfl rfl rfl rfl rfl (by kernel_rfl) Try.func14 (by kernel_rfl)
    (of_decide_eq_true (by kernel_rfl)) (by unfold Func.isWrapper; first | (rw [if_pos (by decide +kernel)]; kernel_rfl) | (rw [if_neg (by decide +kernel)]; exact ⟨rfl, rfl⟩))
    (fun os started H enc _ F => by rw [OpenClaim.pre_eq_preRow]; exact lifted os started H enc F)
#print axioms said
end Go.Proofs.Ytclnhdjnmfkeaaa.fnIrqStates
