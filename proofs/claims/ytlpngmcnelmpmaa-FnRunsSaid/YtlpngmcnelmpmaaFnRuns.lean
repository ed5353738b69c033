/- For every code the law FnRuns returns true; no condition. -/
import Derived.Test.YtlpngmcnelmpmaaRows
import Derived.Test.YtlpngmcnelmpmaaFrame
import Derived.Test.YtlpngmcnelmpmaaRunsP
import Derived.Test.YtlpngmcnelmpmaaRun4
import Derived.Test.YtlpngmcnelmpmaaCompS
import Derived.Test.YtlpngmcnelmpmaaVal
import Derived.Test.YtlpngmcnelmpmaaDraw3
import Derived.RegionTactic
import Derived.BigRegion
namespace Go.Proofs.Ytlpngmcnelmpmaa.fnRuns
open Go.ChangeShapes Go.WideShapes Go.ChangeAt Go.RowKit
open Go.ChangeMaps (open_string shut_string)
open Go.Proofs.Ytlpngmcnelmpmaa.L1 Go.Proofs.Ytlpngmcnelmpmaa.Mem Go.Proofs.Ytlpngmcnelmpmaa.Own Go.Proofs.Ytlpngmcnelmpmaa.Fra Go.Proofs.Ytlpngmcnelmpmaa.Draw
set_option linter.unusedVariables false
theorem own : ownKnob Try.prog.godebug = none := by kernel_rfl
theorem laidOut : laidOutB Try.prog = true := by kernel_rfl
theorem pass {w w1 w2 : World} (h : Below w.heap.size w w1) (k : Below w1.heap.size w1 w2) : Below w.heap.size w w2 := h.trans (k.mono h.size)
theorem stored_apart {w : World} {b g n cn k : Nat} {M : List Int} (hnow : w.ownsRow b 3 1 (.slice (some ⟨g, 0, none⟩) n cn) n (I M)) (hk : k < n) (z : Int) :
    (∃ u, w.cell? ⟨g, k, none⟩ = some u) ∧ w.frozen? ⟨g, k, none⟩ = false ∧ (w.setCell ⟨g, k, none⟩ (.int .i64 z)).ownsRow b 3 1 (.slice (some ⟨g, 0, none⟩) n cn) n (I (M.set k z)) ∧
    (∀ {b2 size n2 : Nat} {e : TypeId} {v : Value} {xs : List Value}, w.ownsRow b2 e size v n2 xs → Apart (.slice (some ⟨g, 0, none⟩) n cn) v → (w.setCell ⟨g, k, none⟩ (.int .i64 z)).ownsRow b2 e size v n2 xs) ∧
    (∀ {W : World}, Below b W w → Below b W (w.setCell ⟨g, k, none⟩ (.int .i64 z))) := by
  have hl := hnow.1
  have hs := hnow.stored k (.int .i64 z)
  rw [I_set] at hs
  exact ⟨⟨_, (hnow.cellAt k (by omega)).trans (List.getElem?_eq_getElem (by omega))⟩, hnow.frozenAt k, hs.1, fun h ha => own_apart (u := .slice (some ⟨g, 0, none⟩) n cn) h hs.2 ha, fun h => h.setCell (p := ⟨g, k, none⟩) (hnow.lt g rfl).1 _⟩
set_option maxRecDepth 20000 in
set_option maxHeartbeats 8000000 in
theorem walk0 (W : World) (A : Option Addr) (n c : Nat) (zs : List Int) (hz : ∀ z ∈ zs, 0 ≤ z ∧ z ≤ 255) (hr : Reads W W.heap.size 1 A n (zs.map (Value.int .u8))) :
    Calls Try.prog 3 #[.slice A n c] W fun e W' => e = .returned (.bool true) ∧ Below W.heap.size W W' := by
  by_cases h1 : (65536 : Int) < n
  · have hv := vBig_any A n c W
    rw [decide_eq_true h1] at hv
    have HV := Lib.hid hv
    clear hv hr
    go_enter Try.func3, Try.ntmps3
    go_wp2_with fail
    refine HV.out.mono ?_
    rintro e w1 ⟨rfl, rfl⟩
    go_wp2_with fail
    go_ret
    exact ⟨rfl, Below.refl _ _⟩
  have hv := vBig_any A n c W
  rw [decide_eq_false h1] at hv
  have HV := Lib.hid hv
  have hn : n ≤ 1000000 := by omega
  have HR := Lib.hid fun (w : World) (hb : Below W.heap.size W w) => (show Reads w w.heap.size 1 A n (zs.map (Value.int .u8)) from (hr.below hb).more hb.size)
  have HZ := Lib.hid hz
  clear hv hr hz h1
  go_enter Try.func3, Try.ntmps3
  go_wp2_with fail
  refine HV.out.mono ?_
  rintro e w1 ⟨rfl, rfl⟩
  clear HV
  go_wp2_with fail
  refine (drawLong_any _ A n c zs HZ.out (HR.out _ (Below.refl _ _)) hn).mono ?_
  rintro e w1 ⟨A0, c0, L0, rfl, hL0, hown0, hb0⟩
  obtain ⟨b, m, ok, hx⟩ := longIs_ex L0
  have HX := Lib.hid hx
  have HW := Lib.hid hb0
  have o0 := Lib.hid hown0
  have hmb : m ≤ L0.length ∧ b ≤ L0.length := by
    rcases hx with ⟨_, _, hm, _⟩ | ⟨_, rfl, rfl, _⟩
    · rcases hm with ⟨rfl, rfl, _⟩ | ⟨e1, e2, _⟩
      · omega
      · have := zrun_le L0 b (by omega); omega
    · omega
  obtain ⟨hm17, hb17⟩ := hmb
  clear hown0 hb0 hx
  go_wp2_with fail
  refine (implLongestFree_any A0 _ c0 L0 b m ok HX.out (by omega) w1 (own_reads o0.out)).mono ?_
  rintro e w2 ⟨rfl, hb⟩
  replace HW := Lib.hid (pass HW.out hb)
  replace o0 := Lib.hid (own_below o0.out hb)
  clear hb
  go_wp2_with fail
  refine (specLongestFree_any A0 _ c0 L0 b m ok HX.out (by omega) w2 (own_reads o0.out)).mono ?_
  rintro e w3 ⟨rfl, hb⟩
  replace HW := Lib.hid (pass HW.out hb)
  replace o0 := Lib.hid (own_below o0.out hb)
  clear hb
  go_upto_if 77 with fail
  go_cut [] from 3 (fun wx => Below W.heap.size W wx)
  case first => as_aux_lemma =>
    cases ok with
    | false =>
      go_wp2_with fail
      go_meet
      exact HW.out
    | true =>
      obtain ⟨xs, s, ok', hx2, hxl⟩ := runIs_ex L0 1 m
      obtain ⟨rfl, rfl⟩ := run_longest HX.out hx2
      have HX2 := Lib.hid hx2
      clear hx2
      go_wp2_with fail
      refine (implGrantRun_any A0 _ c0 L0 1 m xs s true HX2.out (by omega) w3 (own_reads o0.out)).mono ?_
      rintro e w4 ⟨A2, c2, rfl, _, hb⟩
      replace HW := Lib.hid (pass HW.out hb)
      replace o0 := Lib.hid (own_below o0.out hb)
      clear hb HX2
      obtain ⟨xs2, s2, ok2, hx2, hxl2⟩ := runIs_ex L0 1 ((m : Int) + 1)
      obtain rfl := run_longer rfl HX.out hx2
      have HX2 := Lib.hid hx2
      clear hx2
      go_wp2_with fail
      refine (implGrantRun_any A0 _ c0 L0 1 ((m : Int) + 1) xs2 s2 false HX2.out (by omega) w4 (own_reads o0.out)).mono ?_
      rintro e w5 ⟨A3, c3, rfl, _, hb⟩
      replace HW := Lib.hid (pass HW.out hb)
      clear hb HX2 o0 HX
      go_wp2_with fail
      go_meet
      exact HW.out
  case rest => as_aux_lemma =>
    replace HW := Lib.hid hcut
    clear hcut o0 HX
    go_wp2_with fail
    refine (drawRun_any _ A n c zs HZ.out (HR.out _ HW.out) hn).mono ?_
    rintro e w1 ⟨A1, c1, L1, x1, y1, rfl, hL1, hown1, hb⟩
    replace HW := Lib.hid (pass HW.out hb)
    have o1 := Lib.hid hown1
    clear hb hown1
    obtain ⟨xr, sr, okr, hxr, hxrl⟩ := runIs_ex L1 x1 y1
    have HXR := Lib.hid hxr
    clear hxr
    go_wp2_with fail
    refine (implGrantRun_any A1 _ c1 L1 x1 y1 xr sr okr HXR.out (by omega) w1 (own_reads o1.out)).mono ?_
    rintro e w2 ⟨A2, c2, rfl, hown2, hb⟩
    replace HW := Lib.hid (pass HW.out hb)
    replace o1 := Lib.hid (own_below o1.out hb)
    have o2 := Lib.hid hown2
    clear hb hown2
    go_wp2_with fail
    refine (specGrantRun_any A1 _ c1 L1 x1 y1 xr sr okr HXR.out (by omega) w2 (own_reads o1.out) (own_cap o1.out)).mono ?_
    rintro e w3 ⟨A3, c3, rfl, hown3, hb⟩
    replace HW := Lib.hid (pass HW.out hb)
    replace o2 := Lib.hid (own_below o2.out hb)
    have o3 := Lib.hid hown3
    clear hb hown3 o1 HXR
    go_wp2_with fail
    refine (vInts_same A2 A3 _ c2 c3 xr w3 (by omega) (own_reads o2.out) (own_reads o3.out)).mono ?_
    rintro e w4 ⟨rfl, hb⟩
    replace HW := Lib.hid (pass HW.out hb)
    clear hb o2 o3
    go_wp2_with fail
    refine (drawComp_any _ A n c zs HZ.out (HR.out _ HW.out) hn).mono ?_
    rintro e w5 ⟨A4, c4, Y, rfl, hY, hown4, hb⟩
    replace HW := Lib.hid (pass HW.out hb)
    have o4 := Lib.hid hown4
    clear hb hown4
    obtain ⟨q, ps, xs, fine, hcr, hxs, hq⟩ := compRes_ex Y
    have HCR := Lib.hid hcr
    clear hcr
    go_wp2_with fail
    refine (implCompactMoves_any A4 _ c4 Y q ps xs fine HCR.out (by omega) w5 (own_reads o4.out)).mono ?_
    rintro e w6 ⟨A5, c5, A6, c6, rfl, hown5, hown6, _, hb⟩
    replace HW := Lib.hid (pass HW.out hb)
    replace o4 := Lib.hid (own_below o4.out hb)
    have o5 := Lib.hid hown5
    have o6 := Lib.hid hown6
    clear hb hown5 hown6
    go_wp2_with fail
    refine (specCompactMoves_any A4 _ c4 Y q ps xs fine HCR.out (by omega) w6 (own_reads o4.out) (own_cap o4.out)).mono ?_
    rintro e w7 ⟨A7, c7, A8, c8, rfl, hown7, hown8, _, hb⟩
    replace HW := Lib.hid (pass HW.out hb)
    replace o4 := Lib.hid (own_below o4.out hb)
    replace o5 := Lib.hid (own_below o5.out hb)
    replace o6 := Lib.hid (own_below o6.out hb)
    have o7 := Lib.hid hown7
    have o8 := Lib.hid hown8
    clear hb hown7 hown8
    go_wp2_with fail
    refine (vPairs_same A5 A7 _ c5 c7 ps w7 (by omega) (own_reads o5.out) (own_reads o7.out)).mono ?_
    rintro e w8 ⟨rfl, hb⟩
    replace HW := Lib.hid (pass HW.out hb)
    replace o4 := Lib.hid (own_below o4.out hb)
    replace o5 := Lib.hid (own_below o5.out hb)
    replace o6 := Lib.hid (own_below o6.out hb)
    replace o8 := Lib.hid (own_below o8.out hb)
    clear hb o7
    go_wp2_with fail
    refine (vInts_same A6 A8 _ c6 c8 xs w8 (by omega) (own_reads o6.out) (own_reads o8.out)).mono ?_
    rintro e w9 ⟨rfl, hb⟩
    replace HW := Lib.hid (pass HW.out hb)
    replace o4 := Lib.hid (own_below o4.out hb)
    replace o5 := Lib.hid (own_below o5.out hb)
    replace o6 := Lib.hid (own_below o6.out hb)
    clear hb o8
    go_upto_if 168 with fail
    go_cut [] from 3 (fun wx => Below W.heap.size W wx)
    case first => as_aux_lemma =>
      cases fine with
      | false =>
        clear o4 o5 o6
        go_wp2_with fail
        go_meet
        exact HW.out
      | true =>
        obtain ⟨hg, hcomp, hpl, hxl, _⟩ : GoodOw Y ∧ CompIs Y ps xs ∧ ps.length = 2 * q ∧ xs.length = Y.length ∧ true = true := by
          rcases HCR.out with h | ⟨_, _, _, _, h⟩
          · exact h
          · cases h
        obtain ⟨hfin, hseq⟩ := comp_seq hcomp hpl
        have HFIN := Lib.hid hfin
        have HSEQ := Lib.hid hseq
        have HGY := Lib.hid hg
        have hperm := comp_perm Y q
        rw [hfin] at hperm
        have HPM := Lib.hid hperm
        have HSORT : Hid (¬ nz xs + 1 < ln xs) := Lib.hid (by
          obtain ⟨k, e1, e2⟩ := hcomp
          exact e2)
        have hy1 : 1 ≤ Y.length := hg.2.1
        have HLEN : Hid (∀ i, (comp Y i).2.length = Y.length) := Lib.hid fun i => (comp_len Y i).1
        clear HCR hfin hseq hg hperm hcomp hpl
        obtain ⟨g4, rfl⟩ := own_head o4.out (by omega)
        obtain ⟨i0, hi, hz0, hz1, hz2⟩ := info_parts intInfo
        have hown0 : (w9.alloc (.cells #[] 3)).ownsRow w9.heap.size 3 1 (.slice (some ⟨w9.heap.size, 0, none⟩) 0 0) 0 [] := World.ownsRow_made w9 #[] 0 (Nat.le_refl _) (Nat.zero_le _) rfl
        have hcells := (o4.out.alloc (.cells #[] 3)).cells (g := g4) rfl
        have hl2 : (I Y).length = Y.length * 1 := by rw [I_len]; omega
        have h1c := I_one Y
        obtain ⟨LY, hLY⟩ : ∃ LY, LY = I Y := ⟨_, rfl⟩
        rw [← hLY] at hcells hl2 h1c
        have HLY := Lib.hid hLY
        have HO0 := Lib.hid hown0
        have HCE := Lib.hid hcells
        have H1C := Lib.hid h1c
        clear hLY hown0 hcells h1c
        go_wp2_with (at_builtin; refine wpList_append_own _ rfl _ _ 24 rfl w9.heap.size 3 i0 (.int .i64 0) 1 8 Try.underlying24 hi hz0 hz1 hz2 rfl (by decide) _ _ _ rfl HO0.out ⟨g4, 0, none⟩ Y.length c4 LY rfl hl2 HCE.out H1C.out (by unfold maxLen; omega) (by omega) (by simp) ?_; intro v' wa hown1 hgrow1 _; have HNA := Lib.hid hown1; have HGA := Lib.hid hgrow1; clear hown1 hgrow1)
        have hown1 := HNA.out
        rw [Nat.zero_add, List.nil_append, HLY.out] at hown1
        have hba : Below w9.heap.size w9 wa := ((Below.refl w9.heap.size w9).alloc (Nat.le_refl _) _).grown HGA.out (by simp) (fun r hr => (HO0.out.lt r hr).1)
        have hap := apart_new o6.out hown1
        obtain ⟨An, cn, rfl, _, _⟩ := own_form hown1
        obtain ⟨g5, rfl⟩ := own_head hown1 (by omega)
        have HAP := Lib.hid hap
        have HWA := Lib.hid (pass HW.out hba)
        have hnow := own_mono hown1 HW.out.size
        have p4 := Lib.hid (own_below o4.out hba)
        have p5 := Lib.hid (own_below o5.out hba)
        have p6 := Lib.hid (own_below o6.out hba)
        have hap4 := apart_new o4.out hown1
        have HAP4 := Lib.hid hap4
        clear HNA HGA HO0 HCE H1C HLY hown1 hba hap hap4 o4 o5 o6 HW
        go_loopw [33] (fun i wr => ∃ (k : Nat) (M : List Int), i = .int .i64 k ∧ k ≤ q ∧ Hid (M = (comp Y k).2) ∧ wr.ownsRow W.heap.size 3 1 (.slice (some ⟨g5, 0, none⟩) Y.length cn) Y.length (I M) ∧ Hid (wr.ownsRow w5.heap.size 37 2 (.slice A5 q c5) q (I ps)) ∧ Hid (wr.ownsRow w5.heap.size 3 1 (.slice A6 xs.length c6) xs.length (I xs)) ∧ Hid (wr.ownsRow w4.heap.size 3 1 (.slice (some ⟨g4, 0, none⟩) Y.length c4) Y.length (I Y)) ∧ Below W.heap.size W wr) (fun i _ => q - (intOf i).toNat)
        case atStart => exact ⟨0, Y, rfl, Nat.zero_le _, Lib.hid rfl, hnow, p5, p6, p4, HWA.out⟩
        case round =>
          clear hnow p4 p5 p6 HWA
          obtain ⟨k, M, rfl, hk, HM, hnow, p5, p6, p4, hbel⟩ := hrel
          have hML : M.length = Y.length := by rw [HM.out]; exact HLEN.out k
          by_cases hlt : k < q
          · obtain ⟨hgo, hps1, hps2⟩ := HSEQ.out k hlt
            rw [← HM.out] at hgo hps1 hps2
            obtain ⟨f, hf⟩ : ∃ f, ln M = f + 1 := ⟨ln M - 1, by omega⟩
            obtain ⟨t, ht⟩ : ∃ t, nz M = t := ⟨_, rfl⟩
            rw [hf, Nat.add_sub_cancel] at hps1
            rw [ht] at hps2
            have htf : t < f := by omega
            obtain ⟨hf1, hf2⟩ := ln_last hf
            rw [hML] at hf1
            have hzt0 : M[t]? = some 0 := by rw [← ht]; exact nz_zero (by rw [hML]; omega)
            have hmvl : moved M = (M.set t (M.getD f 0)).set f 0 := by
              unfold moved
              rw [hf, ht, Nat.add_sub_cancel]
            obtain ⟨v0, hv0⟩ : ∃ v0, M.getD f 0 = v0 := ⟨_, rfl⟩
            rw [hv0] at hmvl
            have hu : M[f]? = some v0 := by
              rw [← hv0, List.getD_eq_getElem?_getD, List.getElem?_eq_getElem (by omega)]
              rfl
            have hv0n : v0 ≠ 0 := by rintro rfl; exact hf2 hu
            have tv1 : (v0 == 0) = false := by simpa using hv0n
            have HM2 : Hid (moved M = (comp Y (k + 1)).2) := Lib.hid (by rw [comp_step, ← HM.out, if_pos hgo])
            obtain ⟨bm, om, x, y, rfl, _, hx1, hy1, cx, cy⟩ := pair_at (own_reads p5.out) hlt
            obtain rfl : x = (f : Int) := by rw [hps1] at hx1; exact (Option.some.inj hx1).symm
            obtain rfl : y = (t : Int) := by rw [hps2] at hy1; exact (Option.some.inj hy1).symm
            have hcf : wr.cell? ⟨g5, f, none⟩ = some (.int .i64 v0) := (hnow.cellAt f (by omega)).trans (I_at hu)
            have hct : wr.cell? ⟨g5, t, none⟩ = some (.int .i64 0) := (hnow.cellAt t (by omega)).trans (I_at hzt0)
            have HNOW := Lib.hid hnow
            have htn : (t : Int) < Y.length := by omega
            have hfn : (f : Int) < Y.length := by omega
            have hnle : ¬ (f : Int) ≤ (t : Int) := by omega
            clear hx1 hy1 hps1 hps2 hu hv0 hv0n hgo hf hf2 ht hzt0 hnow
            have hne : bm ≠ g5 := fun e => apart_types' p5.out HNOW.out (by decide) bm rfl (by simp [Value.ownBlock, e])
            go_wp2_with fail
            go_quiet (fail)
            have hcf2 : (wr.drewN nq).cell? ⟨g5, f, none⟩ = some (.int .i64 v0) := hcf
            have cx2 : (wr.drewN nq).cell? ⟨bm, om + k * 2, none⟩ = some (.int .i64 f) := cx
            have cy2 : (wr.drewN nq).cell? ⟨bm, om + k * 2 + 1, none⟩ = some (.int .i64 t) := cy
            have N2 : (wr.drewN nq).ownsRow W.heap.size 3 1 (.slice (some ⟨g5, 0, none⟩) Y.length cn) Y.length (I M) := HNOW.out
            have P5 : (wr.drewN nq).ownsRow w5.heap.size 37 2 (.slice (some ⟨bm, om, none⟩) q c5) q (I ps) := p5.out
            have P6 : (wr.drewN nq).ownsRow w5.heap.size 3 1 (.slice A6 xs.length c6) xs.length (I xs) := p6.out
            have P4 : (wr.drewN nq).ownsRow w4.heap.size 3 1 (.slice (some ⟨g4, 0, none⟩) Y.length c4) Y.length (I Y) := p4.out
            have B2 : Below W.heap.size W (wr.drewN nq) := hbel.trans ⟨rfl, rfl, rfl, Nat.le_refl _, fun _ _ => rfl⟩
            generalize wr.drewN nq = wb at hcf2 cx2 cy2 N2 P5 P6 P4 B2 ⊢
            obtain ⟨⟨ut, hut⟩, hft, N3, K3, B3⟩ := stored_apart N2 (k := t) (by omega) v0
            have P5c := K3 P5 (apart_types' N2 P5 (by decide))
            have P6c := K3 P6 HAP.out.symm
            have P4c := K3 P4 HAP4.out.symm
            have BC := B3 B2
            have cx3 : (wb.setCell ⟨g5, t, none⟩ (.int .i64 v0)).cell? ⟨bm, om + k * 2, none⟩ = some (.int .i64 f) := by rw [World.cell?_setCell_far _ _ _ _ (by exact hne.symm)]; exact cx2
            obtain ⟨wc, hwc⟩ : ∃ wc, wb.setCell ⟨g5, t, none⟩ (.int .i64 v0) = wc := ⟨_, rfl⟩
            rw [hwc] at N3 P5c P6c P4c BC cx3
            obtain ⟨⟨uf, huf⟩, hff, N4, K4, B4⟩ := stored_apart N3 (k := f) (by omega) 0
            have P5d := Lib.hid (K4 P5c (apart_types' N3 P5c (by decide)))
            have P6d := Lib.hid (K4 P6c HAP.out.symm)
            have P4d := Lib.hid (K4 P4c HAP4.out.symm)
            have BD := Lib.hid (B4 BC)
            rw [← hmvl] at N4
            have ND := Lib.hid N4
            clear N2 P5 P6 P4 B2 N3 K3 B3 P5c P6c P4c BC N4 K4 B4 hcf cx cy hct HNOW p5 p6 p4 hbel hmvl HM hML
            go_wp2_with fail
            go_region
            go_wp2_with fail
            go_roundw
            case rel => exact ⟨k + 1, _, by go_num, by omega, HM2, ND.out, P5d, P6d, P4d, BD.out.drew⟩
            case measure => simp [intOf]; omega
          · have hkq : k = q := by omega
            have hMx : M = xs := by rw [HM.out, hkq, HFIN.out]
            subst hMx
            have hbel2 := Lib.hid hbel
            have hxl : M.length = Y.length := hML
            have hp6 := p6.out
            rw [hxl] at hp6
            have HP6 := Lib.hid hp6
            have HNR := Lib.hid (own_reads hnow)
            clear HM hkq hbel hnow p5 p6 hp6 HAP HAP4 HLEN HSEQ HFIN
            go_wp2_with fail
            refine (vInts_same (some ⟨g5, 0, none⟩) A6 Y.length cn c6 M wr (by omega) HNR.out (own_reads HP6.out)).mono ?_
            rintro e wb ⟨rfl, hb⟩
            have HWB := Lib.hid (pass hbel2.out hb)
            have p6 := Lib.hid (own_below HP6.out hb)
            replace p4 := Lib.hid (own_below p4.out hb)
            clear hb HNR HP6 hbel2
            go_wp2_with fail
            go_loop [34] (fun i => ∃ (j : Nat), i = .int .i64 (j + 1) ∧ j + 1 ≤ Y.length) (fun i => Y.length - (intOf i).toNat)
            case atStart => exact ⟨0, by go_num, hy1⟩
            case round =>
              obtain ⟨j, rfl, hj⟩ := hrel
              by_cases hlt : j + 1 < Y.length
              · obtain ⟨b1, o1, z, rfl, _, hu, hc1⟩ := (own_reads p6.out).int_at hlt
                obtain ⟨b2, o2, z2, hA, _, hu2, hc2⟩ := (own_reads p6.out).int_at (k := j) (by omega)
                obtain ⟨rfl, rfl⟩ : b1 = b2 ∧ o1 = o2 := by simpa using hA
                have hj0 : (0 : Int) ≤ j := by omega
                have hjn : (j : Int) < Y.length := by omega
                have hj1 : (j : Int) + 1 < Y.length := by omega
                have hja : ((j : Int) + 1).toNat = j + 1 := by omega
                by_cases hz : z = 0
                · subst hz
                  clear hu hu2
                  go_wp2
                  go_round
                  case rel => exact ⟨j + 1, by go_num, by omega⟩
                  case measure => simp [intOf]; omega
                · have hz2 : z2 ≠ 0 := by
                    rintro rfl
                    exact packed_sorted HSORT.out (by rw [hxl]; exact hlt) (by rw [hu]; simpa using hz) hu2
                  have t1 : (z == 0) = false := by simpa using hz
                  have t2 : (z != 0) = true := by simp only [bne, t1, Bool.not_false]
                  have t3 : (z2 == 0) = false := by simpa using hz2
                  clear hu hu2 hz hz2
                  go_wp2
                  go_round
                  case rel => exact ⟨j + 1, by go_num, by omega⟩
                  case measure => simp [intOf]; omega
              · clear HSORT
                go_wp2_with fail
                go_loopw [35] (fun i wr => ∃ (j : Nat), i = .int .i64 (j + 1) ∧ j ≤ 4 ∧ Hid (wr.ownsRow w5.heap.size 3 1 (.slice A6 Y.length c6) Y.length (I M)) ∧ Hid (wr.ownsRow w4.heap.size 3 1 (.slice (some ⟨g4, 0, none⟩) Y.length c4) Y.length (I Y)) ∧ Below W.heap.size W wr) (fun i _ => 5 - (intOf i).toNat)
                case atStart => exact ⟨0, by go_num, by omega, p6, p4, HWB.out⟩
                case round =>
                  clear p6 p4 HWB
                  obtain ⟨j, rfl, hj, p6, p4, hbel⟩ := hrel
                  by_cases hlt : j < 4
                  · have HBE := Lib.hid hbel
                    have hf1 : FramesIs Y ((j : Int) + 1) (fr Y ((j : Int) + 1) Y.length) true := .inl ⟨HGY.out, by omega, by omega, rfl, rfl⟩
                    have hf2 : FramesIs M ((j : Int) + 1) (fr M ((j : Int) + 1) M.length) true := .inl ⟨good_perm HPM.out HGY.out, by omega, by omega, rfl, rfl⟩
                    have hle : (fr M ((j : Int) + 1) M.length).length = (fr Y ((j : Int) + 1) Y.length).length := fr_perm HPM.out _
                    have HF1 := Lib.hid (implFramesOf_any (some ⟨g4, 0, none⟩) Y.length c4 Y ((j : Int) + 1) _ true hf1 (by omega) wr (own_reads p4.out))
                    have HF2 := Lib.hid fun (w : World) (hb : Below wr.heap.size wr w) => implFramesOf_any A6 Y.length c6 M ((j : Int) + 1) _ true hf2 (by omega) w (own_reads (own_below p6.out hb))
                    unfold Row1 at HF1 HF2
                    rw [hle] at HF2
                    obtain ⟨l, hl⟩ : ∃ l, (fr Y ((j : Int) + 1) Y.length).length = l := ⟨_, rfl⟩
                    rw [hl] at HF1 HF2
                    have hl17 : l ≤ 17 := by rw [← hl]; have := fr_len Y ((j : Int) + 1) Y.length; omega
                    clear hbel hf1 hf2 hle hl
                    go_wp2_with fail
                    refine HF1.out.mono ?_
                    rintro e wx ⟨A9, c9, rfl, _, hb⟩
                    have HWX := Lib.hid hb
                    clear hb HF1
                    go_wp2_with fail
                    refine (HF2.out wx HWX.out).mono ?_
                    rintro e wy ⟨A10, c10, rfl, _, hb⟩
                    have hby := pass HWX.out hb
                    replace p6 := Lib.hid (own_below p6.out hby)
                    replace p4 := Lib.hid (own_below p4.out hby)
                    have HBE2 := Lib.hid (pass HBE.out hby)
                    clear hb HF2 HWX HBE hby
                    go_wp2_with fail
                    go_roundw
                    case rel => exact ⟨j + 1, by go_num, by omega, p6, p4, HBE2.out⟩
                    case measure => simp [intOf]; omega
                  · have hj4 : j = 4 := by omega
                    subst hj4
                    have HBE := Lib.hid hbel
                    clear hbel p6 p4
                    go_wp2_with fail
                    go_meet
                    exact HBE.out
    case rest => as_aux_lemma =>
      replace HW := Lib.hid hcut
      clear hcut o4 o5 o6 HCR
      go_wp2_with fail
      refine (drawFree_any _ A n c zs HZ.out (HR.out _ HW.out) hn).mono ?_
      rintro e w1 ⟨A1, c1, L1, x1, rfl, hL1, hown1, hb⟩
      replace HW := Lib.hid (pass HW.out hb)
      have o1 := Lib.hid hown1
      clear hb hown1
      obtain ⟨xr, kr, okr, hxr, hxrl⟩ := freeIs_ex L1 x1
      have HXR := Lib.hid hxr
      clear hxr
      go_wp2_with fail
      refine (implFreeGuest_any A1 _ c1 L1 x1 xr kr okr HXR.out (by omega) w1 (own_reads o1.out)).mono ?_
      rintro e w2 ⟨A2, c2, rfl, hown2, hb⟩
      replace HW := Lib.hid (pass HW.out hb)
      replace o1 := Lib.hid (own_below o1.out hb)
      have o2 := Lib.hid hown2
      clear hb hown2
      go_wp2_with fail
      refine (specFreeGuest_any A1 _ c1 L1 x1 xr kr okr HXR.out (by omega) w2 (own_reads o1.out) (own_cap o1.out)).mono ?_
      rintro e w3 ⟨A3, c3, rfl, hown3, hb⟩
      replace HW := Lib.hid (pass HW.out hb)
      replace o2 := Lib.hid (own_below o2.out hb)
      have o3 := Lib.hid hown3
      clear hb hown3 o1 HXR
      go_wp2_with fail
      refine (vInts_same A2 A3 _ c2 c3 xr w3 (by omega) (own_reads o2.out) (own_reads o3.out)).mono ?_
      rintro e w4 ⟨rfl, hb⟩
      replace HW := Lib.hid (pass HW.out hb)
      clear hb o2 o3
      go_wp2_with fail
      go_ret
      exact ⟨rfl, HW.out⟩

/-- the law's Go text returns true, and nothing that was there has turned -/
theorem walk {H : Type} {enc : TypeId × Value → H} (W : World) (base : Nat) (v0 : Value) (d0 : DataW H) (p0 : List MemPlace) (q0 : Value.okWide Try.prog W .any base 22 v0) (h0 : DataW.Trod enc Try.prog W 0 (fun _ => true) true 22 v0 d0 p0) (l0 : ∀ x ∈ p0, x.block < W.heap.size) (hL : laidMetH Try.prog Rows.fnRunsRow.laid W) (hsh : W.ShapedOpen Try.prog) :
    Calls Try.prog 3 #[v0] W fun e W' => e = .returned (.bool true) ∧ Below W.heap.size W W' := by
  obtain ⟨A, n, c, zs, rfl, hc, hcm, hl, hwf, hr⟩ := open_nums Try.underlying22 Try.underlying5 (by kernel_rfl) q0 h0
  exact walk0 W A n c zs (fun z hz => bounds_u8 (hwf z hz)) hr
theorem laid_met (os : Os) : laidMetH Try.prog Rows.fnRunsRow.laid ((World.holding Try.prog os ⟨#[], #[], []⟩).forCall (fun _ _ => 0) ⟨#[], #[(.slice none 0 0 : Value)], []⟩).memory := ⟨[], rfl, List.nodup_nil, fun _ _ h => by cases h⟩
theorem reads (os : Os) {H : Type} (enc : TypeId × Value → H) : (DataW.whole enc Try.prog ((World.holding Try.prog os ⟨#[], #[], []⟩).forCall (fun _ _ => 0) ⟨#[], #[(.slice none 0 0 : Value)], []⟩).memory Try.f3.params.toList Rows.fnRunsSpec.vars false #[(.slice none 0 0 : Value)].toList 8).isSome = true := by kernel_rfl
set_option maxRecDepth 100000 in
theorem lifted (os : Os) (started : os.Started) (H : Type) (enc : TypeId × Value → H) (F : Stop.Interp) :
    ReturnsInHanded {} Try.checked os 3 .any ((OpenSpec.ofChange Rows.fnRunsSpec).preRow enc Try.prog Try.f3 Rows.fnRunsRow.domain false Rows.fnRunsRow.laid) (((OpenSpec.ofChange Rows.fnRunsSpec).at F).post enc Try.prog Try.f3 false true false false) := by
  obtain ⟨x, hx⟩ := Option.isSome_iff_exists.1 (reads os enc)
  refine returnsInHanded_of_row (C := Try.checked) (s := OpenSpec.ofChange Rows.fnRunsSpec) own started (by kernel_rfl) Try.func3
    (witness_row_at (enc := enc) (C := Try.checked) false (World.holding Try.prog os ⟨#[], #[], []⟩) #[(.slice none 0 0 : Value)] rfl (by kernel_rfl) (by kernel_rfl) (by kernel_rfl)
      (OpenSpec.preRow_of_cond 8 hx (by rfl) (fun k hk => by cases hk) (by kernel_rfl) (laid_met os))) ?_
  intro W base args ds gs before hval0 hW _ hcond hsz hL hsh _
  have hval : ∀ (j : Nat) t v, Try.f3.params[j]? = some t → args[j]? = some v → Value.okWide Try.prog W .any base t v := hval0
  have hW' := hW
  obtain ⟨p, q, hA0, hV, rfl, hfz, hnd⟩ := hW
  have hA : DataW.TrodAll enc Try.prog W 0 (fun _ => true) true Try.f3.params.toList args.toList ds p := hA0
  rw [Try.params3] at hA hval
  obtain ⟨v0, vs0, d0, ds0, p0, q0, hargs, rfl, rfl, h0, r0⟩ := trodAll_cons hA
  obtain ⟨rfl, rfl, rfl⟩ := trodAll_nil r0
  obtain rfl : args = #[v0] := by cases args; simp_all
  obtain ⟨rfl, rfl⟩ := trodVars_none hV
  clear hA0 hval0
  simp only [List.append_nil] at hW'
  refine (walk (enc := enc) W base v0 d0 p0 (hval 0 22 v0 rfl rfl) h0 (fun x hx => hW'.lt x (by simp [hx])) hL hsh).mono fun e W' ⟨he, hb⟩ => ⟨_, he, Fr.post_true laidOut (by kernel_rfl) (by kernel_rfl) Try.underlying4 rfl hW' (fun xs hx => by match xs, hx with | [x0], _ => rfl) hb⟩
theorem said : Rows.FnRunsSaid :=
  OpenClaim.holds_of_cond 3 Try.f3 rfl rfl rfl rfl rfl rfl rfl ⟨rfl, rfl, rfl, rfl, rfl⟩ rfl rfl rfl rfl rfl (by kernel_rfl) Try.func3 (by kernel_rfl)
    (of_decide_eq_true (by kernel_rfl)) (by unfold Func.isWrapper; first | (rw [if_pos (by decide +kernel)]; kernel_rfl) | (rw [if_neg (by decide +kernel)]; exact ⟨rfl, rfl⟩))
    (fun os started H enc _ F => by rw [OpenClaim.pre_eq_preRow]; exact lifted os started H enc F)
#print axioms said
end Go.Proofs.Ytlpngmcnelmpmaa.fnRuns
