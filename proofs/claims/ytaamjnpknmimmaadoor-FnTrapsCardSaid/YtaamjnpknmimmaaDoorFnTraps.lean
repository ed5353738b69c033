/- For every code the law FnTraps returns true; the listed variables read as the program's text lays them (the card ties them). -/
import Derived.Test.YtaamjnpknmimmaaDoorCards
import Derived.Test.YtaamjnpknmimmaaDoorTie
import Derived.Test.YtaamjnpknmimmaaDoorFrame
import Derived.Test.YtaamjnpknmimmaaDoorDr5B
import Derived.Test.YtaamjnpknmimmaaDoorTrpT
import Derived.Test.YtaamjnpknmimmaaDoorTrpY
import Derived.Test.YtaamjnpknmimmaaDoorRSum
import Derived.Deep.Cut
import Derived.Deep.CutRange
namespace Go.Proofs.YtaamjnpknmimmaaDoor.fnTraps
open Go.ChangeShapes Go.WideShapes Go.ChangeAt Go.RowKit
open Go.ChangeMaps (open_string shut_string)
open Go Go.Proofs.YtaamjnpknmimmaaDoor.L5 Go.Proofs.YtaamjnpknmimmaaDoor.Mem Go.Proofs.YtaamjnpknmimmaaDoor.Own Go.Proofs.YtaamjnpknmimmaaDoor.Draw
set_option linter.unusedVariables false
theorem own : ownKnob Tryd.prog.godebug = none := by kernel_rfl
theorem laidOut : laidOutB Tryd.prog = true := by kernel_rfl
theorem tab {W : World} (h : laidMetH Tryd.prog Rows.fnTrapsRow.laid W) : NamesIs W := namesIs_of_mem h (.head _)
theorem syn_pair (x : Trp) : ∃ m, synAns x = (m, decide (Ok x)) := by
  by_cases h : Ok x
  · exact ⟨synOf x, by unfold synAns; rw [if_pos h, decide_eq_true h]⟩
  · exact ⟨0, by unfold synAns; rw [if_neg h, decide_eq_false h]⟩
theorem name_pair (x : Trp) : ∃ m, nameAns x = (m, decide (Ok x)) := by
  by_cases h : Ok x
  · exact ⟨nameOf x, by unfold nameAns; rw [if_pos h, decide_eq_true h]⟩
  · exact ⟨ByteArray.empty, by unfold nameAns; rw [if_neg h, decide_eq_false h]⟩
theorem back_syn {x : Trp} {m : Int} (h : synAns x = (m, true)) : okAns (trapOf m) = (x, true) := by
  unfold synAns at h
  split at h
  · rename_i hx
    obtain rfl := congrArg Prod.fst h
    simp only
    rw [trapOf_syn hx]
    unfold okAns
    rw [if_pos hx]
  · cases congrArg Prod.snd h
theorem back_trap {x : Trp} {q : Int} (h : okAns (trapOf q) = (x, true)) : synAns x = (q, true) := by
  unfold okAns at h
  split at h
  · rename_i hx
    obtain rfl := congrArg Prod.fst h
    unfold synAns
    simp only
    rw [if_pos hx, syn_trapOf]
  · cases congrArg Prod.snd h
theorem count_sum (ts : List Trp) (h : ∀ t ∈ ts, Ok t) : (countOf ts).sum = ts.length := by
  have key : ∀ k, k ≤ ts.length → (countOf (ts.take k)).sum = k := by
    intro k
    induction k with
    | zero => intro _; rfl
    | succ k ih =>
      intro hk
      have hu : ts[k]? = some ts[k] := List.getElem?_eq_getElem (by omega)
      have hb := (ok_bounds (h _ (List.mem_of_getElem? hu))).1
      obtain ⟨j, hj⟩ : ∃ j : Nat, ts[k].cause = (j : Int) + 1 := ⟨(ts[k].cause - 1).toNat, by omega⟩
      have hj5 : j < 5 := by omega
      have ih' := ih (by omega)
      rw [List.take_add_one, hu]
      simp only [Option.toList_some]
      rw [countOf_snoc _ _ hj hj5]
      have hj' : j = 0 ∨ j = 1 ∨ j = 2 ∨ j = 3 ∨ j = 4 := by omega
      simp only [countOf, List.range_succ, List.range_zero, List.nil_append, List.cons_append, List.map_cons, List.map_nil, List.sum_cons, List.sum_nil] at ih' ⊢
      rcases hj' with rfl | rfl | rfl | rfl | rfl <;> simp only [List.set_cons_zero, List.set_cons_succ, List.sum_cons, List.sum_nil] <;> push_cast at ih' ⊢ <;> omega
  have := key ts.length (Nat.le_refl _)
  rwa [List.take_length] at this
theorem count_bounds (ts : List Trp) (hl : ts.length ≤ 50) : ∀ k, k ≤ 5 → 0 ≤ ((countOf ts).take k).sum ∧ ((countOf ts).take k).sum ≤ 1000000 := by
  intro k hk
  have hp : ∀ p : Trp → Bool, (ts.filter p).length ≤ 50 := fun p => Nat.le_trans (List.length_filter_le p ts) hl
  have h0 := hp fun t => t.cause = ((0 : Nat) : Int) + 1
  have h1 := hp fun t => t.cause = ((1 : Nat) : Int) + 1
  have h2 := hp fun t => t.cause = ((2 : Nat) : Int) + 1
  have h3 := hp fun t => t.cause = ((3 : Nat) : Int) + 1
  have h4 := hp fun t => t.cause = ((4 : Nat) : Int) + 1
  have hk' : k = 0 ∨ k = 1 ∨ k = 2 ∨ k = 3 ∨ k = 4 ∨ k = 5 := by omega
  simp only [countOf, List.range_succ, List.range_zero, List.nil_append, List.cons_append, List.map_cons, List.map_nil]
  rcases hk' with rfl | rfl | rfl | rfl | rfl | rfl <;> simp only [List.take_zero, List.take_succ_cons, List.sum_cons, List.sum_nil] <;> omega
theorem pass {w w1 w2 : World} (h : Below w.heap.size w w1) (k : Below w1.heap.size w1 w2) : Below w.heap.size w w2 := h.trans (k.mono h.size)
set_option maxRecDepth 100000 in
set_option maxHeartbeats 8000000 in
theorem walk0 (W : World) (A : Option Addr) (n c : Nat) (zs : List Int) (hz : ∀ z ∈ zs, 0 ≤ z ∧ z ≤ 255) (hr : Reads W W.heap.size 1 A n (zs.map (Value.int .u8))) (hN : NamesIs W) :
    Calls Tryd.prog 4 #[.slice A n c] W fun e W' => e = .returned (.bool true) ∧ Below W.heap.size W W' := by
  by_cases h1 : (65536 : Int) < n
  · have hv := rBig_any A n c W
    rw [decide_eq_true h1] at hv
    have HV := Lib.hid hv
    clear hv hr
    go_enter Tryd.func4, Tryd.ntmps4
    go_wp2_with fail
    refine HV.out.mono ?_
    rintro e w1 ⟨rfl, rfl⟩
    go_wp2_with fail
    go_ret
    exact ⟨rfl, Below.refl _ _⟩
  have hv := rBig_any A n c W
  rw [decide_eq_false h1] at hv
  have HV := Lib.hid hv
  have hn : n ≤ 1000000 := by omega
  have HR := Lib.hid fun (w : World) (hb : Below W.heap.size W w) => (show Reads w w.heap.size 1 A n (zs.map (Value.int .u8)) from (hr.below hb).more hb.size)
  have HZ := Lib.hid hz
  have HN := Lib.hid hN
  clear hv hr hz h1 hN
  go_enter Tryd.func4, Tryd.ntmps4
  go_wp2_with fail
  refine HV.out.mono ?_
  rintro e w1 ⟨rfl, rfl⟩
  clear HV
  go_wp2_with fail
  refine (drawSyn_any _ A n c zs HZ.out (HR.out _ (Below.refl _ _)) hn).mono ?_
  rintro e w1 ⟨tc, wd, s, r, i, rfl, hb0⟩
  have HW := Lib.hid (below_more hb0 (.cells #[.int .i64 tc, .int .i64 wd, .bool s, .int .i64 r, .int .i64 i] 26))
  have HP := Lib.hid (Blk.new w1 #[.int .i64 tc, .int .i64 wd, .bool s, .int .i64 r, .int .i64 i] 26)
  obtain ⟨g, hg⟩ : ∃ g, w1.heap.size = g := ⟨_, rfl⟩
  obtain ⟨wa, hwa⟩ : ∃ wa, w1.alloc (.cells #[.int .i64 tc, .int .i64 wd, .bool s, .int .i64 r, .int .i64 i] 26) = wa := ⟨_, rfl⟩
  rw [hwa] at HW HP
  rw [hg] at HP
  have HWA := Lib.hid hwa
  have HG := Lib.hid hg
  clear hb0 hwa hg
  go_upto_region 4 with fail
  rw [HWA.out, HG.out]
  clear HWA HG
  obtain ⟨m, hm⟩ := syn_pair ⟨tc, wd, s, r, i⟩
  obtain ⟨b, hb⟩ : ∃ b, decide (Ok ⟨tc, wd, s, r, i⟩) = b := ⟨_, rfl⟩
  rw [hb] at hm
  have HM := Lib.hid hm
  have HB := Lib.hid hb
  clear hm hb
  have p0 := HP.out.cell 0 _ rfl
  have p1 := HP.out.cell 1 _ rfl
  have p2 := HP.out.cell 2 _ rfl
  have p3 := HP.out.cell 3 _ rfl
  have p4 := HP.out.cell 4 _ rfl
  go_wp2_with fail
  refine (implSyn_any tc wd s r i m b _ HM.out).mono ?_
  rintro e w2 ⟨rfl, hb⟩
  replace HW := Lib.hid (pass HW.out hb)
  replace HP := Lib.hid (Blk.kept hb HP.out)
  clear hb p0 p1 p2 p3 p4
  have p0 := HP.out.cell 0 _ rfl
  have p1 := HP.out.cell 1 _ rfl
  have p2 := HP.out.cell 2 _ rfl
  have p3 := HP.out.cell 3 _ rfl
  have p4 := HP.out.cell 4 _ rfl
  go_wp2_with fail
  refine (specSyn_any tc wd s r i m b _ HM.out).mono ?_
  rintro e w3 ⟨rfl, hb⟩
  replace HW := Lib.hid (pass HW.out hb)
  replace HP := Lib.hid (Blk.kept hb HP.out)
  clear hb p0 p1 p2 p3 p4
  have p0 := HP.out.cell 0 _ rfl
  have p1 := HP.out.cell 1 _ rfl
  have p2 := HP.out.cell 2 _ rfl
  have p3 := HP.out.cell 3 _ rfl
  have p4 := HP.out.cell 4 _ rfl
  go_wp2_with fail
  refine (implIs_c tc wd s r i _ b HB.out).mono ?_
  rintro e w4 ⟨rfl, hb⟩
  replace HW := Lib.hid (pass HW.out hb)
  replace HP := Lib.hid (Blk.kept hb HP.out)
  clear hb p0 p1 p2 p3 p4
  obtain ⟨yb, hyb⟩ : ∃ y, okAns (trapOf m) = y := ⟨_, rfl⟩
  obtain ⟨⟨g0, g1, g2, g3, g4⟩, b2⟩ := yb
  have HY := Lib.hid hyb
  clear hyb
  go_wp2_with fail
  refine (implTrapOf_any m g0 g1 g2 g3 g4 b2 _ HY.out).mono ?_
  rintro e w5 ⟨rfl, hb⟩
  replace HW := Lib.hid (pass HW.out hb)
  replace HP := Lib.hid (Blk.kept hb HP.out)
  have HQ := Lib.hid (Blk.new w5 #[.int .i64 g0, .int .i64 g1, .bool g2, .int .i64 g3, .int .i64 g4] 26)
  replace HW := Lib.hid (below_more HW.out (.cells #[.int .i64 g0, .int .i64 g1, .bool g2, .int .i64 g3, .int .i64 g4] 26))
  replace HP := Lib.hid (HP.out.alloc (.cells #[.int .i64 g0, .int .i64 g1, .bool g2, .int .i64 g3, .int .i64 g4] 26))
  obtain ⟨q9, hq9⟩ : ∃ g, w5.heap.size = g := ⟨_, rfl⟩
  obtain ⟨wb, hwb⟩ : ∃ wa, w5.alloc (.cells #[.int .i64 g0, .int .i64 g1, .bool g2, .int .i64 g3, .int .i64 g4] 26) = wa := ⟨_, rfl⟩
  rw [hwb] at HW HP HQ
  rw [hq9] at HQ
  have HWB := Lib.hid hwb
  have HQ9 := Lib.hid hq9
  clear hb hwb hq9
  go_upto_region 9 with fail
  rw [HWB.out, HQ9.out]
  clear HWB HQ9
  go_cut [72] from 73 (fun p wx => p = .bool false ∧ Hid (Blk wx g 26 #[.int .i64 tc, .int .i64 wd, .bool s, .int .i64 r, .int .i64 i]) ∧ Hid (Below W.heap.size W wx))
  case first =>
    cases b
    · go_wp2_with fail
      go_meet
      exact ⟨rfl, HP, HW⟩
    · have hback := back_syn HM.out
      rw [HY.out] at hback
      obtain ⟨h1, rfl⟩ := Prod.mk.inj hback
      simp only [Trp.mk.injEq] at h1
      obtain ⟨rfl, rfl, rfl, rfl, rfl⟩ := h1
      have p0 := HP.out.cell 0 _ rfl
      have p1 := HP.out.cell 1 _ rfl
      have p2 := HP.out.cell 2 _ rfl
      have p3 := HP.out.cell 3 _ rfl
      have p4 := HP.out.cell 4 _ rfl
      have q0 := HQ.out.cell 0 _ rfl
      have q1 := HQ.out.cell 1 _ rfl
      have q2 := HQ.out.cell 2 _ rfl
      have q3 := HQ.out.cell 3 _ rfl
      have q4 := HQ.out.cell 4 _ rfl
      clear hback HY
      go_wp2_with fail
      go_meet
      exact ⟨rfl, HP, HW⟩
  case rest =>
    clear HW HP HQ HY
    obtain ⟨rfl, HP, HW⟩ := hcut
    go_wp2_with fail
    refine (drawTrapOf_any _ A n c zs HZ.out (HR.out _ HW.out) hn).mono ?_
    rintro e w6 ⟨q, rfl, hb⟩
    replace HW := Lib.hid (pass HW.out hb)
    replace HP := Lib.hid (Blk.kept hb HP.out)
    clear hb
    obtain ⟨y, hy⟩ : ∃ y, okAns (trapOf q) = y := ⟨_, rfl⟩
    obtain ⟨⟨h0, h1, h2, h3, h4⟩, f⟩ := y
    have HY := Lib.hid hy
    clear hy
    go_wp2_with fail
    refine (implTrapOf_any q h0 h1 h2 h3 h4 f _ HY.out).mono ?_
    rintro e w7 ⟨rfl, hb⟩
    have HU := Lib.hid (Blk.new w7 #[.int .i64 h0, .int .i64 h1, .bool h2, .int .i64 h3, .int .i64 h4] 26)
    replace HW := Lib.hid (below_more (pass HW.out hb) (.cells #[.int .i64 h0, .int .i64 h1, .bool h2, .int .i64 h3, .int .i64 h4] 26))
    replace HP := Lib.hid ((Blk.kept hb HP.out).alloc (.cells #[.int .i64 h0, .int .i64 h1, .bool h2, .int .i64 h3, .int .i64 h4] 26))
    obtain ⟨gu, hgu⟩ : ∃ g, w7.heap.size = g := ⟨_, rfl⟩
    obtain ⟨wc7, hwc⟩ : ∃ wa, w7.alloc (.cells #[.int .i64 h0, .int .i64 h1, .bool h2, .int .i64 h3, .int .i64 h4] 26) = wa := ⟨_, rfl⟩
    rw [hwc] at HW HP HU
    rw [hgu] at HU
    have HWC := Lib.hid hwc
    have HGU := Lib.hid hgu
    clear hb hwc hgu
    go_upto_region 13 with fail
    rw [HWC.out, HGU.out]
    clear HWC HGU
    go_wp2_with fail
    refine (specTrapOf_any q h0 h1 h2 h3 h4 f _ HY.out).mono ?_
    rintro e w8 ⟨rfl, hb⟩
    replace HW := Lib.hid (pass HW.out hb)
    replace HP := Lib.hid (Blk.kept hb HP.out)
    replace HU := Lib.hid (Blk.kept hb HU.out)
    have HX := Lib.hid (Blk.new w8 #[.int .i64 h0, .int .i64 h1, .bool h2, .int .i64 h3, .int .i64 h4] 26)
    replace HW := Lib.hid (below_more HW.out (.cells #[.int .i64 h0, .int .i64 h1, .bool h2, .int .i64 h3, .int .i64 h4] 26))
    replace HP := Lib.hid (HP.out.alloc (.cells #[.int .i64 h0, .int .i64 h1, .bool h2, .int .i64 h3, .int .i64 h4] 26))
    replace HU := Lib.hid (HU.out.alloc (.cells #[.int .i64 h0, .int .i64 h1, .bool h2, .int .i64 h3, .int .i64 h4] 26))
    obtain ⟨gx, hgx⟩ : ∃ g, w8.heap.size = g := ⟨_, rfl⟩
    obtain ⟨wd8, hwd⟩ : ∃ wa, w8.alloc (.cells #[.int .i64 h0, .int .i64 h1, .bool h2, .int .i64 h3, .int .i64 h4] 26) = wa := ⟨_, rfl⟩
    rw [hwd] at HW HP HU HX
    rw [hgx] at HX
    have HWD := Lib.hid hwd
    have HGX := Lib.hid hgx
    clear hb hwd hgx
    go_upto_region 14 with fail
    rw [HWD.out, HGX.out]
    clear HWD HGX
    have vv0 := HU.out.cell 0 _ rfl
    have vv1 := HU.out.cell 1 _ rfl
    have vv2 := HU.out.cell 2 _ rfl
    have vv3 := HU.out.cell 3 _ rfl
    have vv4 := HU.out.cell 4 _ rfl
    have x0 := HX.out.cell 0 _ rfl
    have x1 := HX.out.cell 1 _ rfl
    have x2 := HX.out.cell 2 _ rfl
    have x3 := HX.out.cell 3 _ rfl
    have x4 := HX.out.cell 4 _ rfl
    go_upto_if 93 with fail
    clear x0 x1 x2 x3 x4 HX
    go_cut [] from 8 (fun wx => Hid (Blk wx g 26 #[.int .i64 tc, .int .i64 wd, .bool s, .int .i64 r, .int .i64 i]) ∧ Hid (Below W.heap.size W wx))
    case first =>
      cases f
      · go_wp2_with fail
        go_meet
        exact ⟨HP, HW⟩
      · have HS := Lib.hid (back_trap HY.out)
        clear HY
        go_wp2_with fail
        refine (implSyn_any h0 h1 h2 h3 h4 q true _ HS.out).mono ?_
        rintro e w9 ⟨rfl, hb⟩
        replace HW := Lib.hid (pass HW.out hb)
        replace HP := Lib.hid (Blk.kept hb HP.out)
        clear hb vv0 vv1 vv2 vv3 vv4 HU HS
        go_wp2_with fail
        go_meet
        exact ⟨HP, HW⟩
    case rest =>
      clear HW HP HU HY vv0 vv1 vv2 vv3 vv4
      obtain ⟨HP, HW⟩ := hcut
      have p0 := HP.out.cell 0 _ rfl
      have p1 := HP.out.cell 1 _ rfl
      have p2 := HP.out.cell 2 _ rfl
      have p3 := HP.out.cell 3 _ rfl
      have p4 := HP.out.cell 4 _ rfl
      go_wp2_with fail
      refine (implRep_any tc wd s r i b _ HB.out).mono ?_
      rintro e w9 ⟨rfl, hb⟩
      replace HW := Lib.hid (pass HW.out hb)
      replace HP := Lib.hid (Blk.kept hb HP.out)
      clear hb p0 p1 p2 p3 p4
      have p0 := HP.out.cell 0 _ rfl
      have p1 := HP.out.cell 1 _ rfl
      have p2 := HP.out.cell 2 _ rfl
      have p3 := HP.out.cell 3 _ rfl
      have p4 := HP.out.cell 4 _ rfl
      obtain ⟨rp, hrp⟩ : ∃ rp, (b && tc == 1) = rp := ⟨_, rfl⟩
      have HRP := Lib.hid hrp
      rw [hrp]
      go_wp2_with fail
      refine (specRep_any tc wd s r i b _ HB.out).mono ?_
      rintro e w10 ⟨rfl, hb⟩
      rw [hrp]
      replace HW := Lib.hid (pass HW.out hb)
      replace HP := Lib.hid (Blk.kept hb HP.out)
      clear hb p0 p1 p2 p3 p4 hrp
      have p0 := HP.out.cell 0 _ rfl
      go_upto_region 22 with fail
      go_cut [133] from 134 (fun p wx => p = .bool false ∧ Hid (Blk wx g 26 #[.int .i64 tc, .int .i64 wd, .bool s, .int .i64 r, .int .i64 i]) ∧ Hid (Below W.heap.size W wx))
      case first =>
        have hrp := HRP.out
        cases b
        · rw [Bool.false_and] at hrp
          subst hrp
          go_wp2_with fail
          go_meet
          exact ⟨rfl, HP, HW⟩
        · rw [Bool.true_and] at hrp
          subst hrp
          clear HRP
          go_wp2_with fail
          go_meet
          exact ⟨by simp, HP, HW⟩
      case rest =>
        clear HP HW p0
        obtain ⟨rfl, HP, HW⟩ := hcut
        obtain ⟨nm, hnm⟩ := name_pair ⟨tc, wd, s, r, i⟩
        rw [HB.out] at hnm
        have HNM := Lib.hid hnm
        clear hnm
        have p0 := HP.out.cell 0 _ rfl
        have p1 := HP.out.cell 1 _ rfl
        have p2 := HP.out.cell 2 _ rfl
        have p3 := HP.out.cell 3 _ rfl
        have p4 := HP.out.cell 4 _ rfl
        go_wp2_with fail
        refine (implName_any tc wd s r i nm b _ (names_below HW.out HN.out) HNM.out).mono ?_
        rintro e w11 ⟨rfl, hb⟩
        replace HW := Lib.hid (pass HW.out hb)
        replace HP := Lib.hid (Blk.kept hb HP.out)
        clear hb p0 p1 p2 p3 p4
        have p0 := HP.out.cell 0 _ rfl
        have p1 := HP.out.cell 1 _ rfl
        have p2 := HP.out.cell 2 _ rfl
        have p3 := HP.out.cell 3 _ rfl
        have p4 := HP.out.cell 4 _ rfl
        go_wp2_with fail
        refine (specName_any tc wd s r i nm b _ HNM.out).mono ?_
        rintro e w12 ⟨rfl, hb⟩
        replace HW := Lib.hid (pass HW.out hb)
        clear hb p0 p1 p2 p3 p4 HP
        go_wp2_with fail
        refine (drawCnt_any _ A n c zs HZ.out (HR.out _ HW.out) hn).mono ?_
        rintro e w13 ⟨A1, c1, L, rfl, hL, hown, hb⟩
        replace HW := Lib.hid (pass HW.out hb)
        have o1 := Lib.hid hown
        clear hb hown
        obtain ⟨y, hy⟩ : ∃ y, cntAns L = y := ⟨_, rfl⟩
        obtain ⟨l, f2⟩ := y
        have hl5 := cntAns_len hy
        have HY := Lib.hid hy
        clear hy
        go_wp2_with fail
        refine (implCnt_any A1 _ c1 L w13 (own_reads o1.out) (by omega) l f2 HY.out).mono ?_
        rintro e w14 ⟨A2, c2, rfl, hown, hb⟩
        replace HW := Lib.hid (pass HW.out hb)
        replace o1 := Lib.hid (own_below o1.out hb)
        have o2 := Lib.hid hown
        clear hb hown
        go_wp2_with fail
        refine (specCnt_any A1 _ c1 L w14 (own_reads o1.out) (by omega) l f2 HY.out).mono ?_
        rintro e w15 ⟨A3, c3, rfl, hown, hb⟩
        replace HW := Lib.hid (pass HW.out hb)
        replace o2 := Lib.hid (own_below o2.out hb)
        have o3 := Lib.hid hown
        clear hb hown
        go_wp2_with fail
        refine (rInts_same A2 A3 _ c2 c3 l w15 (by omega) (own_reads o2.out) (own_reads o3.out)).mono ?_
        rintro e w16 ⟨rfl, hb⟩
        replace HW := Lib.hid (pass HW.out hb)
        replace o2 := Lib.hid (own_below o2.out hb)
        clear hb o3 o1
        cases f2
        · go_wp2_with fail
          go_ret
          exact ⟨rfl, HW.out⟩
        · have hy := HY.out
          unfold cntAns at hy
          by_cases hts : OkTs L
          · rw [if_pos hts] at hy
            obtain rfl := (Prod.mk.inj hy).1
            have hsum := count_sum L hts.2
            have hbd := count_bounds L hts.1
            have HSM := Lib.hid hsum
            have h50 := hts.1
            have hl := countOf_len L
            clear hy hsum hts HY hl5
            obtain ⟨cl, hcl⟩ : ∃ cl, countOf L = cl := ⟨_, rfl⟩
            rw [hcl] at hbd hl HSM o2 ⊢
            have HRS := Lib.hid (rSum_any A2 _ c2 cl w16 (by omega) (own_reads o2.out) (fun k hk => hbd k (by omega)))
            clear hbd hl hcl
            go_wp2_with fail
            refine HRS.out.mono ?_
            rintro e w17 ⟨rfl, hw⟩
            subst hw
            rw [HSM.out]
            go_wp2_with fail
            go_ret
            exact ⟨by simp, HW.out⟩
          · rw [if_neg hts] at hy
            cases (Prod.mk.inj hy).2

set_option maxHeartbeats 4000000 in
set_option maxRecDepth 100000 in
/-- the law's Go text returns true, and nothing that was there has turned -/
theorem walk {H : Type} {enc : TypeId × Value → H} (W : World) (base : Nat) (v0 : Value) (d0 : DataW H) (p0 : List MemPlace) (q0 : Value.okWide Tryd.prog W .any base 29 v0) (h0 : DataW.Trod enc Tryd.prog W 0 (fun _ => true) true 29 v0 d0 p0) (l0 : ∀ x ∈ p0, x.block < W.heap.size) (hL : laidMetH Tryd.prog Rows.fnTrapsRow.laid W) (hsh : W.ShapedOpen Tryd.prog) :
    Calls Tryd.prog 4 #[v0] W fun e W' => e = .returned (.bool true) ∧ Below W.heap.size W W' := by
  clear hsh
  obtain ⟨A, n, c, zs, rfl, hc, hcm, hl, hwf, hr⟩ := open_nums Tryd.underlying29 Tryd.underlying5 (by kernel_rfl) q0 h0
  exact walk0 W A n c zs (fun z hz => bounds_u8 (hwf z hz)) hr (tab hL)
noncomputable def laidWorld (os : Os) : World := { World.holding Tryd.prog os ⟨#[], #[], []⟩ with heap := ((World.holding Tryd.prog os ⟨#[], #[], []⟩).heap).modify 0 (Fr.lay #[.string ⟨#[]⟩, .string ⟨#[102, 97, 117, 108, 116]⟩, .string ⟨#[99, 97, 108, 108]⟩, .string ⟨#[100, 101, 118, 105, 99, 101]⟩, .string ⟨#[119, 97, 105, 116]⟩, .string ⟨#[98, 97, 100]⟩]) }
theorem laid_met (os : Os) : laidMetH Tryd.prog Rows.fnTrapsRow.laid ((laidWorld os).forCall (fun _ _ => 0) ⟨#[], #[(.slice none 0 0 : Value)], []⟩).memory := laidMet_of_run' 8 (by kernel_rfl) (by kernel_rfl)
theorem reads (os : Os) {H : Type} (enc : TypeId × Value → H) : (DataW.whole enc Tryd.prog ((laidWorld os).forCall (fun _ _ => 0) ⟨#[], #[(.slice none 0 0 : Value)], []⟩).memory Tryd.f4.params.toList Rows.fnTrapsSpec.vars false #[(.slice none 0 0 : Value)].toList 8).isSome = true := by kernel_rfl
set_option maxRecDepth 100000 in
theorem lifted (os : Os) (started : os.Started) (H : Type) (enc : TypeId × Value → H) (F : Stop.Interp) :
    ReturnsInHanded {} Tryd.checked os 4 .any ((OpenSpec.ofChange Rows.fnTrapsSpec).preRow enc Tryd.prog Tryd.f4 Rows.fnTrapsRow.domain false Rows.fnTrapsRow.laid) (((OpenSpec.ofChange Rows.fnTrapsSpec).at F).post enc Tryd.prog Tryd.f4 false true false false) := by
  obtain ⟨x, hx⟩ := Option.isSome_iff_exists.1 (reads os enc)
  refine returnsInHanded_of_row (C := Tryd.checked) (s := OpenSpec.ofChange Rows.fnTrapsSpec) own started (by kernel_rfl) Tryd.func4
    (witness_row_at (enc := enc) (C := Tryd.checked) false (laidWorld os) #[(.slice none 0 0 : Value)] rfl (by kernel_rfl) (by kernel_rfl) (by kernel_rfl)
      (OpenSpec.preRow_of_cond 8 hx (by rfl) (fun k hk => by cases hk) (by kernel_rfl) (laid_met os))) ?_
  intro W base args ds gs before hval0 hW _ hcond hsz hL hsh _
  have hval : ∀ (j : Nat) t v, Tryd.f4.params[j]? = some t → args[j]? = some v → Value.okWide Tryd.prog W .any base t v := hval0
  have hW' := hW
  obtain ⟨p, q, hA0, hV, rfl, hfz, hnd⟩ := hW
  have hA : DataW.TrodAll enc Tryd.prog W 0 (fun _ => true) true Tryd.f4.params.toList args.toList ds p := hA0
  rw [Tryd.params4] at hA hval
  obtain ⟨v0, vs0, d0, ds0, p0, q0, hargs, rfl, rfl, h0, r0⟩ := trodAll_cons hA
  obtain ⟨rfl, rfl, rfl⟩ := trodAll_nil r0
  obtain rfl : args = #[v0] := by cases args; simp_all
  clear hA0 hval0
  try simp only [List.append_nil] at hW'
  refine (walk (enc := enc) W base v0 d0 p0 (hval 0 29 v0 rfl rfl) h0 (fun x hx => hW'.lt x (by simp [hx])) hL hsh).mono fun e W' ⟨he, hb⟩ => ⟨_, he, Fr.post_true_v laidOut (by kernel_rfl) (by kernel_rfl) Tryd.underlying4 (by kernel_rfl) hW' (fun xs ys hx hy => by match xs, ys, hx, hy with | [x0], [y0], _, _ => rfl) hb⟩
theorem said : Rows.FnTrapsSaid :=
  OpenClaim.holds_of_cond 4 Tryd.f4 rfl rfl rfl rfl rfl rfl rfl ⟨rfl, rfl, rfl, rfl, rfl⟩ rfl rfl rfl rfl rfl (by kernel_rfl) Tryd.func4 (by kernel_rfl)
    (of_decide_eq_true (by kernel_rfl)) (by unfold Func.isWrapper; first | (rw [if_pos (by decide +kernel)]; kernel_rfl) | (rw [if_neg (by decide +kernel)]; exact ⟨rfl, rfl⟩))
    (fun os started H enc _ F => by rw [OpenClaim.pre_eq_preRow]; exact lifted os started H enc F)
theorem plain (f : FuncId) (fn : Func) (hf : Tryd.pinned.checked.prog.funcNamed "loop.example/g00843/laws.FnTraps" = some f) (hfn : Tryd.pinned.checked.prog.funcs[f]? = some fn) :
    false = Tryd.pinned.checked.prog.looks [] ∧ ∀ (j : Nat) t, fn.params[j]? = some t → Tryd.pinned.checked.prog.wantsStandIn t = false := by
  obtain rfl : f = 4 := Option.some.inj ((show Tryd.prog.funcNamed "loop.example/g00843/laws.FnTraps" = some 4 by kernel_rfl).symm.trans hf) |>.symm
  obtain rfl : fn = Tryd.f4 := (Option.some.inj (Tryd.func4.symm.trans hfn)).symm
  refine ⟨by kernel_rfl, fun j t ht => ?_⟩
  have hall : Tryd.f4.params.toList.all (fun t => !Tryd.prog.wantsStandIn t) = true := by kernel_rfl
  have := List.all_eq_true.1 hall t (by simpa using Array.mem_of_getElem? ht)
  show Tryd.prog.wantsStandIn t = false
  simpa using this
theorem card : Rows.FnTrapsCardSaid :=
  Claim7.holds_tied_plain_at .later [] _ _ _ _ said (fun _ h => by cases h) (by kernel_rfl) (fun _ h => by cases h) fnTraps_row_tie rfl ⟨rfl, rfl⟩ (by kernel_rfl) rfl plain (by kernel_rfl)
#print axioms card
end Go.Proofs.YtaamjnpknmimmaaDoor.fnTraps
