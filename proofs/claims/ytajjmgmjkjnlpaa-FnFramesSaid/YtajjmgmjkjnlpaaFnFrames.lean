/- For every code the law FnFrames returns true; no condition. -/
import Derived.Test.YtajjmgmjkjnlpaaRows
import Derived.Test.YtajjmgmjkjnlpaaFrame
import Derived.Test.YtajjmgmjkjnlpaaFramesP
import Derived.Test.YtajjmgmjkjnlpaaVInt
import Derived.Test.YtajjmgmjkjnlpaaDraw5
import Derived.Test.YtajjmgmjkjnlpaaFr6
import Derived.Test.YtajjmgmjkjnlpaaFr8
import Derived.Deep.Cut
namespace Go.Proofs.Ytajjmgmjkjnlpaa.fnFrames
open Go.ChangeShapes Go.WideShapes Go.ChangeAt Go.RowKit
open Go.ChangeMaps (open_string shut_string)
open Go.Proofs.Ytajjmgmjkjnlpaa.L1 Go.Proofs.Ytajjmgmjkjnlpaa.Mem Go.Proofs.Ytajjmgmjkjnlpaa.Own Go.Proofs.Ytajjmgmjkjnlpaa.Fra Go.Proofs.Ytajjmgmjkjnlpaa.Draw
set_option linter.unusedVariables false
theorem own : ownKnob Try.prog.godebug = none := by kernel_rfl
theorem laidOut : laidOutB Try.prog = true := by kernel_rfl
theorem pass {w w1 w2 : World} (h : Below w.heap.size w w1) (k : Below w1.heap.size w1 w2) : Below w.heap.size w w2 := h.trans (k.mono h.size)
set_option maxRecDepth 20000 in
set_option maxHeartbeats 8000000 in
theorem walk0 (W : World) (A : Option Addr) (n c : Nat) (zs : List Int) (hz : ∀ z ∈ zs, 0 ≤ z ∧ z ≤ 255) (hr : Reads W W.heap.size 1 A n (zs.map (Value.int .u8))) :
    Calls Try.prog 14 #[.slice A n c] W fun e W' => e = .returned (.bool true) ∧ Below W.heap.size W W' := by
  by_cases h1 : (65536 : Int) < n
  · have hv := vBig_any A n c W
    rw [decide_eq_true h1] at hv
    have HV := Lib.hid hv
    clear hv hr
    go_enter Try.func14, Try.ntmps14
    go_wp2_with fail
    refine HV.out.mono ?_
    rintro e w1 ⟨rfl, rfl⟩
    go_wp2_with fail
    go_ret
    exact ⟨rfl, Below.refl _ _⟩
  have hv := vBig_any A n c W
  rw [decide_eq_false h1] at hv
  have HV := Lib.hid hv
  have hn : n ≤ 1000000 := by omega
  have HR := Lib.hid fun (w : World) (hb : Below W.heap.size W w) => (show Reads w w.heap.size 1 A n (zs.map (Value.int .u8)) from (hr.below hb).more hb.size)
  have HZ := Lib.hid hz
  clear hv hr hz h1
  go_enter Try.func14, Try.ntmps14
  go_wp2_with fail
  refine HV.out.mono ?_
  rintro e w1 ⟨rfl, rfl⟩
  clear HV
  go_wp2_with fail
  refine (drawGrant_any _ A n c zs HZ.out (HR.out _ (Below.refl _ _)) hn).mono ?_
  rintro e w1 ⟨A0, c0, L0, x0, y0, rfl, hL0, hown0, hb0⟩
  obtain ⟨xs, ys, ok, hx, hxl, hyl⟩ := grantIs_ex L0 x0 y0
  have HX := Lib.hid hx
  have HW := Lib.hid hb0
  have o0 := Lib.hid hown0
  clear hown0 hb0 hx
  go_wp2_with fail
  refine (implGrantFrames_any A0 _ c0 L0 x0 y0 xs ys ok HX.out (by omega) w1 (own_reads o0.out)).mono ?_
  rintro e w2 ⟨A1, c1, A2, c2, rfl, hown1, hown2, ha, hb⟩
  have a01 := Lib.hid (apart_new o0.out hown1)
  have a02 := Lib.hid (apart_new o0.out hown2)
  replace HW := Lib.hid (pass HW.out hb)
  replace o0 := Lib.hid (own_below o0.out hb)
  have o1 := Lib.hid hown1
  have o2 := Lib.hid hown2
  clear hb hown1 hown2 ha
  go_wp2_with fail
  refine (specGrantFrames_any A0 _ c0 L0 x0 y0 xs ys ok HX.out (by omega) w2 (own_reads o0.out) (own_cap o0.out)).mono ?_
  rintro e w3 ⟨A3, c3, A4, c4, rfl, hown3, hown4, _, hb⟩
  replace HW := Lib.hid (pass HW.out hb)
  replace o0 := Lib.hid (own_below o0.out hb)
  replace o1 := Lib.hid (own_below o1.out hb)
  replace o2 := Lib.hid (own_below o2.out hb)
  have o3 := Lib.hid hown3
  have o4 := Lib.hid hown4
  clear hb hown3 hown4
  go_wp2_with fail
  refine (vInts_same A1 A3 _ c1 c3 xs w3 (by omega) (own_reads o1.out) (own_reads o3.out)).mono ?_
  rintro e w4 ⟨rfl, hb⟩
  replace HW := Lib.hid (pass HW.out hb)
  replace o0 := Lib.hid (own_below o0.out hb)
  replace o1 := Lib.hid (own_below o1.out hb)
  replace o2 := Lib.hid (own_below o2.out hb)
  replace o4 := Lib.hid (own_below o4.out hb)
  clear hb o3
  go_wp2_with fail
  refine (vInts_same A2 A4 _ c2 c4 ys w4 (by omega) (own_reads o2.out) (own_reads o4.out)).mono ?_
  rintro e w5 ⟨rfl, hb⟩
  replace HW := Lib.hid (pass HW.out hb)
  replace o0 := Lib.hid (own_below o0.out hb)
  replace o1 := Lib.hid (own_below o1.out hb)
  replace o2 := Lib.hid (own_below o2.out hb)
  clear hb o4
  go_upto_if 84 with fail
  go_cut [] from 3 (fun wx => Below W.heap.size W wx)
  case first => as_aux_lemma =>
    cases ok with
    | false =>
      go_wp2_with fail
      go_meet
      exact HW.out
    | true =>
      obtain ⟨m, rfl, hg, ho1, ho4, hm, hys, hxs⟩ : ∃ m : Nat, y0 = m ∧ GoodOw L0 ∧ 1 ≤ x0 ∧ x0 ≤ 4 ∧ m ≤ (fr L0 0 L0.length).length ∧ ys = (fr L0 0 L0.length).take m ∧ xs = put L0 x0 ys := by
        rcases HX.out with ⟨m, e0, e1, e2, e3, e4, e5, e6, _⟩ | ⟨_, _, _, e⟩
        · exact ⟨m, e0, e1, e2, e3, e4, e5, e6⟩
        · cases e
      have hyl2 : ys.length = m := by rw [hys, List.length_take]; omega
      have hxs2 : xs.length = L0.length := by rw [hxs, put_len]
      have hfb : ∀ f ∈ ys, 0 ≤ f ∧ f < L0.length := fun f hf => by rw [hys] at hf; exact fr_bd f (List.mem_of_mem_take hf)
      have HAT : Hid (∀ (i : Nat) (f : Int), ys[i]? = some f → ∃ j : Nat, f = j ∧ j < L0.length ∧ L0[j]? = some 0 ∧ (Back L0 x0 ys i)[j]? = some x0) := Lib.hid fun i f hf => by rw [hys] at hf ⊢; exact back_at rfl hf
      have HEND : Hid (Back L0 x0 ys m = L0) := Lib.hid (by rw [hys]; exact back_end rfl hm)
      have HGB : Hid (∀ i, GoodOw (Back L0 x0 ys i)) := Lib.hid fun i => back_good i hg ⟨ho1, ho4⟩ hfb
      have h0 := o1.out
      rw [show xs = Back L0 x0 ys 0 from by rw [back_zero]; exact hxs, back_len] at h0
      have hn0 : L0.length ≤ 16 := hg.2.2
      have hm17 : m ≤ 17 := by rw [← hyl2]; omega
      have H0 := Lib.hid h0
      have h2 := o2.out
      rw [hyl2] at h2
      have O2 := Lib.hid h2
      have HYI : Hid (∀ i : Nat, i < m → ∃ f : Int, ys[i]? = some f) := Lib.hid fun i hi => ⟨_, List.getElem?_eq_getElem (by omega)⟩
      have hhs : Hid (∀ (i : Nat) (f : Int), ys[i]? = some f → Back L0 x0 ys (i + 1) = (Back L0 x0 ys i).set f.toNat 0) := Lib.hid fun i f hf => back_succ hf
      have HBL : Hid (∀ i, (Back L0 x0 ys i).length = L0.length) := Lib.hid fun i => back_len _ _ _ _
      rw [hyl2, hxs2] at *
      clear HX hg hys hxs hfb hm h0 h2 o1 o2 a01 a02 hxl hyl hxs2 hyl2
      go_wp2_with fail
      go_loopw [12, 13] (fun v i wr => ∃ (k b0 : Nat), i = .int .i64 k ∧ k ≤ m ∧ Hid (wr.ownsRow b0 3 1 v L0.length (I (Back L0 x0 ys k))) ∧ Hid (wr.ownsRow w1.heap.size 3 1 (.slice A2 m c2) m (I ys)) ∧ Hid (∃ b1, wr.ownsRow b1 3 1 (.slice A0 L0.length c0) L0.length (I L0)) ∧ Below W.heap.size W wr) (fun _ i _ => m - (intOf i).toNat)
      case atStart => exact ⟨0, _, rfl, Nat.zero_le _, H0, O2, Lib.hid ⟨_, o0.out⟩, HW.out⟩
      case round =>
        clear H0 O2 o0 HW
        obtain ⟨k, b0, rfl, hk, HBK, O2, HO0, hbel⟩ := hrel
        obtain ⟨Av, cv, rfl, _, _⟩ := own_form HBK.out
        by_cases hlt : k < m
        · obtain ⟨f, hf⟩ := HYI.out k hlt
          obtain ⟨j, rfl, hj, hj0, hjo⟩ := HAT.out k f hf
          have hbk := hhs.out k _ hf
          rw [Int.toNat_natCast] at hbk
          have htk : TakeIs (Back L0 x0 ys k) x0 (j : Int) (Back L0 x0 ys (k + 1)) true := .inl ⟨j, rfl, HGB.out k, ho1, ho4, hjo, hbk, rfl⟩
          have htake := implTakeFrame_any Av L0.length cv (Back L0 x0 ys k) x0 (j : Int) (Back L0 x0 ys (k + 1)) true htk (by omega) wr (own_reads HBK.out)
          unfold Row1 at htake
          rw [HBL.out] at htake
          have HTK := Lib.hid htake
          obtain ⟨b1, h0⟩ := HO0.out
          obtain ⟨bf, of, fx, rfl, _, hfx, hcf⟩ := (own_reads O2.out).int_at hlt
          obtain rfl : fx = (j : Int) := by rw [hf] at hfx; exact (Option.some.inj hfx).symm
          obtain ⟨bl, ol, lx, rfl, hbl, hlx, hcl⟩ := (own_reads h0).int_at hj
          obtain rfl : lx = 0 := by rw [hj0] at hlx; exact (Option.some.inj hlx).symm
          have HBE := Lib.hid hbel
          have hjL : (j : Int) < L0.length := by omega
          have hbfl := World.block_lt_of_cell? wr _ hcf
          have hbll := World.block_lt_of_cell? wr _ hcl
          clear hf hj0 hjo hbk htk htake hfx hlx hbel HBK
          go_wp2_with fail
          refine HTK.out.mono ?_
          rintro e wx ⟨A9, c9, rfl, hown9, hb⟩
          have hcf2 : wx.cell? ⟨bf, of + k, none⟩ = some (.int .i64 j) := (hb.cell (p := ⟨bf, of + k, none⟩) hbfl).trans hcf
          have hcl2 : wx.cell? ⟨bl, ol + j, none⟩ = some (.int .i64 0) := (hb.cell (p := ⟨bl, ol + j, none⟩) hbll).trans hcl
          have P0 : Hid (∃ b1, wx.ownsRow b1 3 1 (.slice (some ⟨bl, ol, none⟩) L0.length c0) L0.length (I L0)) := Lib.hid ⟨b1, own_below h0 hb⟩
          have P2 := Lib.hid (own_below O2.out hb)
          have P9 := Lib.hid hown9
          have HBX := Lib.hid (pass HBE.out hb)
          clear hb hcf hcl h0 O2 hown9 HBE HO0 HTK
          go_wp2_with fail
          go_roundw
          case rel => exact ⟨k + 1, _, by go_num, by omega, P9, P2, P0, HBX.out⟩
          case measure => simp [intOf]; omega
        · have hkm : k = m := by omega
          have hback := HBK.out
          rw [hkm, HEND.out] at hback
          obtain ⟨b1, h0⟩ := HO0.out
          have HX1 := Lib.hid hback
          have HX0 := Lib.hid h0
          have HBE := Lib.hid hbel
          clear hkm hback h0 HBK HO0 hbel O2
          go_wp2_with fail
          refine (vInts_same Av A0 L0.length cv c0 L0 wr (by omega) (own_reads HX1.out) (own_reads HX0.out)).mono ?_
          rintro e wx ⟨rfl, hb⟩
          have HBX := Lib.hid (pass HBE.out hb)
          clear hb HBE HX1 HX0
          go_wp2_with fail
          go_meet
          exact HBX.out
  case rest => as_aux_lemma =>
    replace HW := Lib.hid hcut
    clear hcut o0 o1 o2 a01 a02 HX
    go_wp2_with fail
    refine (drawTake_any _ A n c zs HZ.out (HR.out _ HW.out) hn).mono ?_
    rintro e w1 ⟨A1, c1, L1, x1, y1, rfl, hL1, hown1, hb⟩
    replace HW := Lib.hid (pass HW.out hb)
    have o1 := Lib.hid hown1
    clear hb hown1
    obtain ⟨xr, okr, hxr, hxrl⟩ := takeIs_ex L1 x1 y1
    have HXR := Lib.hid hxr
    clear hxr
    go_wp2_with fail
    refine (implTakeFrame_any A1 _ c1 L1 x1 y1 xr okr HXR.out (by omega) w1 (own_reads o1.out)).mono ?_
    rintro e w2 ⟨A2, c2, rfl, hown2, hb⟩
    replace HW := Lib.hid (pass HW.out hb)
    replace o1 := Lib.hid (own_below o1.out hb)
    have o2 := Lib.hid hown2
    clear hb hown2
    go_wp2_with fail
    refine (specTakeFrame_any A1 _ c1 L1 x1 y1 xr okr HXR.out (by omega) w2 (own_reads o1.out) (own_cap o1.out)).mono ?_
    rintro e w3 ⟨A3, c3, rfl, hown3, hb⟩
    replace HW := Lib.hid (pass HW.out hb)
    replace o2 := Lib.hid (own_below o2.out hb)
    have o3 := Lib.hid hown3
    clear hb hown3 o1 HXR
    go_wp2_with fail
    refine (vInts_same A2 A3 _ c2 c3 xr w3 (by omega) (own_reads o2.out) (own_reads o3.out)).mono ?_
    rintro e w4 ⟨rfl, hb⟩
    replace HW := Lib.hid (pass HW.out hb)
    clear hb o2 o3
    go_wp2_with fail
    refine (drawFrames_any _ A n c zs HZ.out (HR.out _ HW.out) hn).mono ?_
    rintro e w5 ⟨A5, c5, L5, x5, rfl, hL5, hown5, hb⟩
    replace HW := Lib.hid (pass HW.out hb)
    have o5 := Lib.hid hown5
    clear hb hown5
    obtain ⟨xf, fine, hxf, hxfl⟩ := framesIs_ex L5 x5
    have HXF := Lib.hid hxf
    clear hxf
    go_wp2_with fail
    refine (implFramesOf_any A5 _ c5 L5 x5 xf fine HXF.out (by omega) w5 (own_reads o5.out)).mono ?_
    rintro e w6 ⟨A6, c6, rfl, hown6, hb⟩
    replace HW := Lib.hid (pass HW.out hb)
    replace o5 := Lib.hid (own_below o5.out hb)
    have o6 := Lib.hid hown6
    clear hb hown6
    go_wp2_with fail
    refine (specFramesOf_any A5 _ c5 L5 x5 xf fine HXF.out (by omega) w6 (own_reads o5.out)).mono ?_
    rintro e w7 ⟨A7, c7, rfl, hown7, hb⟩
    replace HW := Lib.hid (pass HW.out hb)
    replace o5 := Lib.hid (own_below o5.out hb)
    replace o6 := Lib.hid (own_below o6.out hb)
    have o7 := Lib.hid hown7
    clear hb hown7
    go_wp2_with fail
    refine (vInts_same A6 A7 _ c6 c7 xf w7 (by omega) (own_reads o6.out) (own_reads o7.out)).mono ?_
    rintro e w8 ⟨rfl, hb⟩
    replace HW := Lib.hid (pass HW.out hb)
    replace o5 := Lib.hid (own_below o5.out hb)
    clear hb o6 o7
    obtain ⟨gd, hgd⟩ : ∃ gd, decide (GoodOw L5) = gd := ⟨_, rfl⟩
    have HGD := Lib.hid hgd
    clear hgd
    go_wp2_with fail
    refine (implAreOwners_any A5 _ c5 _ L5 w8 (own_reads o5.out) (by omega) gd HGD.out).mono ?_
    rintro e w9 ⟨rfl, rfl⟩
    go_wp2_with fail
    refine (specAreOwners_any A5 _ c5 _ L5 w8 (own_reads o5.out) (by omega) gd HGD.out).mono ?_
    rintro e w9 ⟨rfl, rfl⟩
    go_upto_if 187 with fail
    go_cut [] from 3 (fun wx => Below W.heap.size W wx)
    case first => as_aux_lemma =>
      cases fine with
      | false =>
        go_wp2_with fail
        go_meet
        exact HW.out
      | true =>
        have hg : GoodOw L5 := by
          rcases HXF.out with ⟨e, _⟩ | ⟨_, _, e⟩
          · exact e
          · cases e
        have HUP : Hid (upto L5 5 = L5.length) := Lib.hid (upto_all hg.1)
        have HGG := Lib.hid hg
        have HUS : Hid (∀ k, upto L5 (k + 1) = upto L5 k + L5.count (k : Int)) := Lib.hid fun k => rfl
        have HUB : Hid (∀ k, upto L5 k ≤ 17 * k) := Lib.hid fun k => by
          induction k with
          | zero => exact Nat.le_refl _
          | succ k ih => rw [upto]; have := List.count_le_length (l := L5) (a := (k : Int)); omega
        clear HXF hg HGD hxfl
        go_wp2_with fail
        go_loopw [29, 30] (fun sv i wr => ∃ (k : Nat), i = .int .i64 k ∧ k ≤ 5 ∧ sv = .int .i64 (upto L5 k) ∧ Hid (∃ b1, wr.ownsRow b1 3 1 (.slice A5 L5.length c5) L5.length (I L5)) ∧ Below W.heap.size W wr) (fun _ i _ => 5 - (intOf i).toNat)
        case atStart => exact ⟨0, rfl, by omega, rfl, Lib.hid ⟨_, o5.out⟩, HW.out⟩
        case round =>
          clear o5 HW
          obtain ⟨k, rfl, hk, rfl, HO, hbel⟩ := hrel
          have hub := HUB.out k
          by_cases hlt : k < 5
          · obtain ⟨b1, h0⟩ := HO.out
            have hcnt := frames_count L5 (k : Int) L5.length
            rw [List.take_length] at hcnt
            have hfi := implFramesOf_any A5 L5.length c5 L5 (k : Int) _ true (.inl ⟨HGG.out, by omega, by omega, rfl, rfl⟩) (by omega) wr (own_reads h0)
            unfold Row1 at hfi
            rw [hcnt] at hfi
            have hup := HUS.out k
            have hub2 := HUB.out (k + 1)
            obtain ⟨l, hl⟩ : ∃ l, L5.count (k : Int) = l := ⟨_, rfl⟩
            obtain ⟨s0, hs0⟩ : ∃ s0, upto L5 k = s0 := ⟨_, rfl⟩
            rw [hl] at hfi hup
            rw [hs0] at hup hub
            rw [hs0]
            have HFI := Lib.hid hfi
            have HUPK := Lib.hid hup
            have HBE := Lib.hid hbel
            have hl17 : l ≤ 100 := by omega
            clear hcnt hfi hl hs0 hbel hup hub2 HO
            go_wp2_with fail
            refine HFI.out.mono ?_
            rintro e wx ⟨A9, c9, rfl, _, hb⟩
            have P0 : Hid (∃ b1, wx.ownsRow b1 3 1 (.slice A5 L5.length c5) L5.length (I L5)) := Lib.hid ⟨b1, own_below h0 hb⟩
            have HBX := Lib.hid (pass HBE.out hb)
            clear hb h0 HBE HFI
            go_wp2_with fail
            go_roundw
            case rel => exact ⟨k + 1, by go_num, by omega, by rw [HUPK.out]; go_num, P0, HBX.out⟩
            case measure => simp [intOf]; omega
          · have hk5 : k = 5 := by omega
            subst hk5
            have HBE := Lib.hid hbel
            rw [HUP.out]
            clear hbel HO hub
            go_wp2_with fail
            go_meet
            exact HBE.out
    case rest => as_aux_lemma =>
      replace HW := Lib.hid hcut
      clear hcut o5 HXF HGD
      go_wp2_with fail
      refine (drawText_any _ A n c zs HZ.out (HR.out _ HW.out) hn).mono ?_
      rintro e w1 ⟨A1, c1, U, rfl, hU, hown1, hb⟩
      replace HW := Lib.hid (pass HW.out hb)
      have o1 := Lib.hid hown1
      clear hb hown1
      obtain ⟨s, shown, hts⟩ := textIs_ex U
      have hss : s.size ≤ 17 := by
        rcases hts with ⟨_, rfl, _⟩ | ⟨_, rfl, _⟩
        · rw [txt_size]; omega
        · simp
      obtain ⟨bk, rd', hpi, hbk⟩ := parseIs_ex s
      have HSH : Hid (shown = true → bk = U ∧ rd' = true) := Lib.hid fun hsh => by
        rcases hts with ⟨e1, e2, _⟩ | ⟨_, _, e⟩
        · rcases hpi with ⟨e3, e4, e5⟩ | ⟨e3, _⟩
          · refine ⟨?_, e5⟩
            have r1 := map_back (f := dvs) (fun z a b => (dv_mkb a b).1) e1.1
            have r2 := map_back (f := dvs) (fun z a b => (dv_mkb a b).1) e3.1
            rw [← e2] at r1
            rw [← e4] at r2
            rw [← r1, ← r2]
          · exact absurd e2 (e3 U e1)
        · rw [hsh] at e; cases e
      have HTS := Lib.hid hts
      have HPI := Lib.hid hpi
      clear hts hpi
      go_wp2_with fail
      refine (implOwnersText_any A1 _ c1 U s shown HTS.out (by omega) w1 (own_reads o1.out)).mono ?_
      rintro e w2 ⟨rfl, hb⟩
      replace HW := Lib.hid (pass HW.out hb)
      replace o1 := Lib.hid (own_below o1.out hb)
      clear hb
      go_wp2_with fail
      refine (implParseOwners_any s bk rd' HPI.out (by omega) w2).mono ?_
      rintro e w3 ⟨A3, c3, rfl, hown3, hb⟩
      replace HW := Lib.hid (pass HW.out hb)
      replace o1 := Lib.hid (own_below o1.out hb)
      have o3 := Lib.hid hown3
      clear hb hown3
      go_wp2_with fail
      refine (specOwnersText_any A1 _ c1 U s shown HTS.out (by omega) w3 (own_reads o1.out)).mono ?_
      rintro e w4 ⟨rfl, hb⟩
      replace HW := Lib.hid (pass HW.out hb)
      replace o1 := Lib.hid (own_below o1.out hb)
      replace o3 := Lib.hid (own_below o3.out hb)
      clear hb
      have ts : (s.toList == s.toList) = true := by simp
      have ts2 : (s.toList != s.toList) = false := by simp only [bne, ts, Bool.not_true]
      go_upto_region 44 with fail
      go_cut [245] from 3 (fun tv wx => tv = .bool false ∧ Below W.heap.size W wx)
      case first => as_aux_lemma =>
        cases shown with
        | false =>
          clear HSH
          go_wp2_with fail
          go_meet
          exact ⟨rfl, HW.out⟩
        | true =>
          obtain ⟨rfl, rfl⟩ := HSH.out rfl
          clear HSH
          go_wp2_with fail
          refine (vInts_same A3 A1 _ c3 c1 _ w4 (by omega) (own_reads o3.out) (own_reads o1.out)).mono ?_
          rintro e w5 ⟨rfl, hb⟩
          replace HW := Lib.hid (pass HW.out hb)
          clear hb o1 o3
          go_wp2_with fail
          go_meet
          exact ⟨rfl, HW.out⟩
      case rest => as_aux_lemma =>
        obtain ⟨rfl, hcb⟩ := hcut
        replace HW := Lib.hid hcb
        clear hcb o1 o3 HSH HTS HPI ts ts2
        go_wp2_with fail
        refine (drawParse_any _ A n c zs HZ.out (HR.out _ HW.out) hn).mono ?_
        rintro e w1 ⟨s, rfl, hs, hb⟩
        replace HW := Lib.hid (pass HW.out hb)
        clear hb
        obtain ⟨xp, bp, hpi, hxpl⟩ := parseIs_ex s
        have HPI := Lib.hid hpi
        clear hpi
        go_wp2_with fail
        refine (implParseOwners_any s xp bp HPI.out (by omega) w1).mono ?_
        rintro e w2 ⟨A2, c2, rfl, hown2, hb⟩
        replace HW := Lib.hid (pass HW.out hb)
        have o2 := Lib.hid hown2
        clear hb hown2
        go_wp2_with fail
        refine (specParseOwners_any s xp bp HPI.out (by omega) w2).mono ?_
        rintro e w3 ⟨A3, c3, rfl, hown3, hb⟩
        replace HW := Lib.hid (pass HW.out hb)
        replace o2 := Lib.hid (own_below o2.out hb)
        have o3 := Lib.hid hown3
        clear hb hown3 HPI
        go_wp2_with fail
        refine (vInts_same A2 A3 _ c2 c3 xp w3 (by omega) (own_reads o2.out) (own_reads o3.out)).mono ?_
        rintro e w4 ⟨rfl, hb⟩
        replace HW := Lib.hid (pass HW.out hb)
        clear hb o2 o3
        go_wp2_with fail
        go_ret
        exact ⟨rfl, HW.out⟩

/-- the law's Go text returns true, and nothing that was there has turned -/
theorem walk {H : Type} {enc : TypeId × Value → H} (W : World) (base : Nat) (v0 : Value) (d0 : DataW H) (p0 : List MemPlace) (q0 : Value.okWide Try.prog W .any base 22 v0) (h0 : DataW.Trod enc Try.prog W 0 (fun _ => true) true 22 v0 d0 p0) (l0 : ∀ x ∈ p0, x.block < W.heap.size) (hL : laidMetH Try.prog Rows.fnFramesRow.laid W) (hsh : W.ShapedOpen Try.prog) :
    Calls Try.prog 14 #[v0] W fun e W' => e = .returned (.bool true) ∧ Below W.heap.size W W' := by
  obtain ⟨A, n, c, zs, rfl, hc, hcm, hl, hwf, hr⟩ := open_nums Try.underlying22 Try.underlying5 (by kernel_rfl) q0 h0
  exact walk0 W A n c zs (fun z hz => bounds_u8 (hwf z hz)) hr
theorem laid_met (os : Os) : laidMetH Try.prog Rows.fnFramesRow.laid ((World.holding Try.prog os ⟨#[], #[], []⟩).forCall (fun _ _ => 0) ⟨#[], #[(.slice none 0 0 : Value)], []⟩).memory := ⟨[], rfl, List.nodup_nil, fun _ _ h => by cases h⟩
theorem reads (os : Os) {H : Type} (enc : TypeId × Value → H) : (DataW.whole enc Try.prog ((World.holding Try.prog os ⟨#[], #[], []⟩).forCall (fun _ _ => 0) ⟨#[], #[(.slice none 0 0 : Value)], []⟩).memory Try.f14.params.toList Rows.fnFramesSpec.vars false #[(.slice none 0 0 : Value)].toList 8).isSome = true := by kernel_rfl
set_option maxRecDepth 100000 in
theorem lifted (os : Os) (started : os.Started) (H : Type) (enc : TypeId × Value → H) (F : Stop.Interp) :
    ReturnsInHanded {} Try.checked os 14 .any ((OpenSpec.ofChange Rows.fnFramesSpec).preRow enc Try.prog Try.f14 Rows.fnFramesRow.domain false Rows.fnFramesRow.laid) (((OpenSpec.ofChange Rows.fnFramesSpec).at F).post enc Try.prog Try.f14 false true false false) := by
  obtain ⟨x, hx⟩ := Option.isSome_iff_exists.1 (reads os enc)
  refine returnsInHanded_of_row (C := Try.checked) (s := OpenSpec.ofChange Rows.fnFramesSpec) own started (by kernel_rfl) Try.func14
    (witness_row_at (enc := enc) (C := Try.checked) false (World.holding Try.prog os ⟨#[], #[], []⟩) #[(.slice none 0 0 : Value)] rfl (by kernel_rfl) (by kernel_rfl) (by kernel_rfl)
      (OpenSpec.preRow_of_cond 8 hx (by rfl) (fun k hk => by cases hk) (by kernel_rfl) (laid_met os))) ?_
  intro W base args ds gs before hval0 hW _ hcond hsz hL hsh _
  have hval : ∀ (j : Nat) t v, Try.f14.params[j]? = some t → args[j]? = some v → Value.okWide Try.prog W .any base t v := hval0
  have hW' := hW
  obtain ⟨p, q, hA0, hV, rfl, hfz, hnd⟩ := hW
  have hA : DataW.TrodAll enc Try.prog W 0 (fun _ => true) true Try.f14.params.toList args.toList ds p := hA0
  rw [Try.params14] at hA hval
  obtain ⟨v0, vs0, d0, ds0, p0, q0, hargs, rfl, rfl, h0, r0⟩ := trodAll_cons hA
  obtain ⟨rfl, rfl, rfl⟩ := trodAll_nil r0
  obtain rfl : args = #[v0] := by cases args; simp_all
  obtain ⟨rfl, rfl⟩ := trodVars_none hV
  clear hA0 hval0
  simp only [List.append_nil] at hW'
  refine (walk (enc := enc) W base v0 d0 p0 (hval 0 22 v0 rfl rfl) h0 (fun x hx => hW'.lt x (by simp [hx])) hL hsh).mono fun e W' ⟨he, hb⟩ => ⟨_, he, Fr.post_true laidOut (by kernel_rfl) (by kernel_rfl) Try.underlying4 rfl hW' (fun xs hx => by match xs, hx with | [x0], _ => rfl) hb⟩
theorem said : Rows.FnFramesSaid :=
  OpenClaim.holds_of_cond 14 Try.f14 rfl rfl rfl rfl rfl rfl rfl ⟨rfl, rfl, rfl, rfl, rfl⟩ rfl rfl rfl rfl rfl (by kernel_rfl) Try.func14 (by kernel_rfl)
    (of_decide_eq_true (by kernel_rfl)) (by unfold Func.isWrapper; first | (rw [if_pos (by decide +kernel)]; kernel_rfl) | (rw [if_neg (by decide +kernel)]; exact ⟨rfl, rfl⟩))
    (fun os started H enc _ F => by rw [OpenClaim.pre_eq_preRow]; exact lifted os started H enc F)
#print axioms said
end Go.Proofs.Ytajjmgmjkjnlpaa.fnFrames
