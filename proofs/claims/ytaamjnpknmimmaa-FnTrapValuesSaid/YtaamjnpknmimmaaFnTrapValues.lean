/- For every code the law FnTrapValues returns true. -/
import Derived.Test.YtaamjnpknmimmaaRows
import Derived.Test.YtaamjnpknmimmaaFrame
import Derived.Test.YtaamjnpknmimmaaDr5F
import Derived.Test.YtaamjnpknmimmaaTrpX
import Derived.Test.YtaamjnpknmimmaaTrpF
import Derived.Test.YtaamjnpknmimmaaRInt
import Derived.Deep.Cut
import Derived.Deep.CutRange
import Derived.Deep.CutBlock
namespace Go.Proofs.Ytaamjnpknmimmaa.fnTrapValues
open Go.ChangeShapes Go.WideShapes Go.ChangeAt Go.RowKit
open Go.ChangeMaps (open_string shut_string)
open Go Go.Proofs.Ytaamjnpknmimmaa.L5 Go.Proofs.Ytaamjnpknmimmaa.Mem Go.Proofs.Ytaamjnpknmimmaa.Own Go.Proofs.Ytaamjnpknmimmaa.Draw
set_option linter.unusedVariables false
theorem own : ownKnob Try.prog.godebug = none := by kernel_rfl
theorem laidOut : laidOutB Try.prog = true := by kernel_rfl
theorem load_at {c wd r i x : Int} {s : Bool} {L l : List Int} (h : ldAns ⟨c, wd, s, r, i⟩ L x = (l, true)) :
    c = 3 ∧ s = false ∧ ∃ k : Nat, r = k ∧ k < 4 ∧ L.length = 4 ∧ l = L.set k (partOf x wd) ∧ 0 ≤ partOf x wd ∧ partOf x wd ≤ x ∧ stoAns ⟨3, wd, true, (k : Int), i⟩ l = (partOf x wd, true) := by
  unfold ldAns at h
  split at h
  · rename_i hk
    obtain rfl := congrArg Prod.fst h
    obtain ⟨ho, hc, hs, hw, hx⟩ := hk
    simp only at hc hs
    subst hc hs
    have hd := (okD_iff _ _ _ _).1 ho
    obtain ⟨k, hk⟩ : ∃ k : Nat, r = k := ⟨r.toNat, by omega⟩
    subst hk
    have hp := partOf_range x wd
    have hpx : partOf x wd ≤ x := by unfold partOf; split <;> omega
    have hk4 : k < 4 := by omega
    refine ⟨rfl, rfl, k, rfl, hk4, hw.1, by simp [loadOf], hp.1, hpx, ?_⟩
    have hl : loadOf ⟨3, wd, false, (k : Int), i⟩ L x = L.set k (partOf x wd) := by simp [loadOf]
    rw [hl]
    have hok : OkS ⟨3, wd, true, (k : Int), i⟩ (L.set k (partOf x wd)) := by
      refine ⟨(okD_iff _ _ _ _).2 hd, rfl, rfl, by rw [List.length_set]; exact hw.1, fun z hz => ?_⟩
      rcases List.mem_or_eq_of_mem_set hz with h | h
      · exact hw.2 z h
      · rw [h]; exact hp
    unfold stoAns
    rw [if_pos hok]
    have hg : (L.set k (partOf x wd)).getD k 0 = partOf x wd := by
      rw [List.getD_eq_getElem?_getD, List.getElem?_set_self (by rw [hw.1]; exact hk4)]; rfl
    have hpp : partOf (partOf x wd) wd = partOf x wd := by unfold partOf; split <;> omega
    simp only [storedOf, Int.toNat_natCast]
    rw [hg, hpp]
  · cases congrArg Prod.snd h
theorem ok_of {x y : Trp} (h : okAns x = (y, true)) : decide (Ok y) = true := by
  unfold okAns at h
  split at h
  · rename_i hx
    obtain rfl := congrArg Prod.fst h
    exact decide_eq_true hx
  · cases congrArg Prod.snd h
theorem pass {w w1 w2 : World} (h : Below w.heap.size w w1) (k : Below w1.heap.size w1 w2) : Below w.heap.size w w2 := h.trans (k.mono h.size)
theorem cell_own {w : World} {b n c k : Nat} {e : TypeId} {g : Nat} {zs : List Int} (h : w.ownsRow b e 1 (.slice (some ⟨g, 0, none⟩) n c) n (I zs)) (hk : k < n) {z : Int} (hz : zs[k]? = some z) : w.cell? ⟨g, k, none⟩ = some (.int .i64 z) :=
  (h.cellAt k (by omega)).trans (I_at hz)
set_option maxRecDepth 100000 in
set_option maxHeartbeats 8000000 in
theorem walk0 (W : World) (A : Option Addr) (n c : Nat) (zs : List Int) (hz : ∀ z ∈ zs, 0 ≤ z ∧ z ≤ 255) (hr : Reads W W.heap.size 1 A n (zs.map (Value.int .u8))) :
    Calls Try.prog 12 #[.slice A n c] W fun e W' => e = .returned (.bool true) ∧ Below W.heap.size W W' := by
  by_cases h1 : (65536 : Int) < n
  · have hv := rBig_any A n c W
    rw [decide_eq_true h1] at hv
    have HV := Lib.hid hv
    clear hv hr
    go_enter Try.func12, Try.ntmps12
    go_wp2_with fail
    refine HV.out.mono ?_
    rintro e w1 ⟨rfl, rfl⟩
    go_wp2_with fail
    go_ret
    exact ⟨rfl, Below.refl _ _⟩
  have hv := rBig_any A n c W
  rw [decide_eq_false h1] at hv
  have HV := Lib.hid hv
  have hn : n ≤ 1000000 := by omega
  have HR := Lib.hid fun (w : World) (hb : Below W.heap.size W w) => (show Reads w w.heap.size 1 A n (zs.map (Value.int .u8)) from (hr.below hb).more hb.size)
  have HZ := Lib.hid hz
  clear hv hr hz h1
  go_enter Try.func12, Try.ntmps12
  go_wp2_with fail
  refine HV.out.mono ?_
  rintro e w1 ⟨rfl, rfl⟩
  clear HV
  go_wp2_with fail
  refine (drawLd_any _ A n c zs HZ.out (HR.out _ (Below.refl _ _)) hn).mono ?_
  rintro e w1 ⟨tc, wd, s, r, i, A1, c1, L, x, rfl, hL, hown, hb⟩
  have o1 := Lib.hid hown
  clear hown
  have HW := Lib.hid (below_more hb (.cells #[.int .i64 tc, .int .i64 wd, .bool s, .int .i64 r, .int .i64 i] 25))
  have HP := Lib.hid (Blk.new w1 #[.int .i64 tc, .int .i64 wd, .bool s, .int .i64 r, .int .i64 i] 25)
  replace o1 := Lib.hid (o1.out.alloc (.cells #[.int .i64 tc, .int .i64 wd, .bool s, .int .i64 r, .int .i64 i] 25))
  obtain ⟨g, hg1⟩ : ∃ g, w1.heap.size = g := ⟨_, rfl⟩
  obtain ⟨wa1, hwa1⟩ : ∃ wa, w1.alloc (.cells #[.int .i64 tc, .int .i64 wd, .bool s, .int .i64 r, .int .i64 i] 25) = wa := ⟨_, rfl⟩
  rw [hwa1] at HW HP o1
  rw [hg1] at HP
  have HA1 := Lib.hid hwa1
  have HG1 := Lib.hid hg1
  clear hwa1 hg1
  go_upto_region 4 with fail
  rw [HA1.out, HG1.out]
  clear HA1 HG1
  clear hb
  obtain ⟨y, hy⟩ : ∃ y, ldAns ⟨tc, wd, s, r, i⟩ L x = y := ⟨_, rfl⟩
  obtain ⟨l, b⟩ := y
  have hll := ldAns_len hy
  have HY := Lib.hid hy
  clear hy
  have p0 := HP.out.cell 0 _ rfl
  have p1 := HP.out.cell 1 _ rfl
  have p2 := HP.out.cell 2 _ rfl
  have p3 := HP.out.cell 3 _ rfl
  have p4 := HP.out.cell 4 _ rfl
  go_wp2_with fail
  refine (implLoad_any tc wd s r i A1 _ c1 L x l b _ (own_reads o1.out) (by omega) HY.out).mono ?_
  rintro e w2 ⟨A2, c2, rfl, hown, hb⟩
  have o2 := Lib.hid (own_mono hown HW.out.size)
  replace HW := Lib.hid (pass HW.out hb)
  replace o1 := Lib.hid (own_below o1.out hb)
  replace HP := Lib.hid (Blk.kept hb HP.out)
  skip
  clear hown hb
  clear p0 p1 p2 p3 p4
  have p0 := HP.out.cell 0 _ rfl
  have p1 := HP.out.cell 1 _ rfl
  have p2 := HP.out.cell 2 _ rfl
  have p3 := HP.out.cell 3 _ rfl
  have p4 := HP.out.cell 4 _ rfl
  go_wp2_with fail
  refine (specLoad_any tc wd s r i A1 _ c1 L x l b _ (own_reads o1.out) (by omega) HY.out).mono ?_
  rintro e w3 ⟨A3, c3, rfl, hown, hb⟩
  replace HW := Lib.hid (pass HW.out hb)
  replace o1 := Lib.hid (own_below o1.out hb)
  replace o2 := Lib.hid (own_below o2.out hb)
  replace HP := Lib.hid (Blk.kept hb HP.out)
  have o3 := Lib.hid hown
  clear hown hb
  clear p0 p1 p2 p3 p4
  go_wp2_with fail
  refine (rInts_same A2 A3 _ c2 c3 l w3 (by omega) (own_reads o2.out) (own_reads o3.out)).mono ?_
  rintro e w4 ⟨rfl, hb⟩
  replace HW := Lib.hid (pass HW.out hb)
  replace o1 := Lib.hid (own_below o1.out hb)
  replace o2 := Lib.hid (own_below o2.out hb)
  replace HP := Lib.hid (Blk.kept hb HP.out)
  clear hb o3
  go_upto_if 65 with fail
  go_cut [] from 10 (fun wx => Hid (Below W.heap.size W wx))
  case first =>
    cases b
    · go_wp2_with fail
      go_meet
      exact HW
    · obtain ⟨rfl, rfl, k, rfl, hk, hL4, hl, hp0, hpx, hst⟩ := load_at HY.out
      have HS := Lib.hid hst
      obtain ⟨p, hp⟩ : ∃ p, partOf x wd = p := ⟨_, rfl⟩
      rw [hp] at hl hp0 hpx HS
      clear hst hp HY
      have hl4 : l.length = 4 := by rw [hl, List.length_set]; exact hL4
      have HLK := Lib.hid (show l[k]? = some p by rw [hl]; exact List.getElem?_set_self (by omega))
      have HLO := Lib.hid (show ∀ j, j ≠ k → l[j]? = L[j]? from fun j hj => by rw [hl]; exact List.getElem?_set_ne (fun e => hj e.symm))
      clear hl
      obtain ⟨g1, rfl⟩ := own_head o1.out (by omega)
      obtain ⟨g2, rfl⟩ := own_head o2.out (by omega)
      have hkl : (k : Int) < (l.length : Int) := by omega
      have HL4 := Lib.hid hl4
      have HM4 := Lib.hid hL4
      clear hl4 hL4
      have p0 := HP.out.cell 0 _ rfl
      have p1 := HP.out.cell 1 _ rfl
      have p2 := HP.out.cell 2 _ rfl
      have p3 := HP.out.cell 3 _ rfl
      have p4 := HP.out.cell 4 _ rfl
      have HQ := Lib.hid (Blk.new w4 #[.int .i64 3, .int .i64 wd, .bool false, .int .i64 (k : Int), .int .i64 i] 25)
      obtain ⟨gq, hgq⟩ : ∃ g, w4.heap.size = g := ⟨_, rfl⟩
      have hWq : W.heap.size ≤ gq := by rw [← hgq]; exact HW.out.size
      have hgne : g ≠ gq := by rw [← hgq]; have := HP.out.lt; omega
      have hn1 : g1 ≠ gq := by rw [← hgq]; have := (o1.out.lt g1 rfl).2; omega
      have hn2 : g2 ≠ gq := by rw [← hgq]; have := (o2.out.lt g2 rfl).2; omega
      replace HW := Lib.hid (below_more HW.out (.cells #[.int .i64 3, .int .i64 wd, .bool false, .int .i64 (k : Int), .int .i64 i] 25))
      replace HP := Lib.hid (HP.out.alloc (.cells #[.int .i64 3, .int .i64 wd, .bool false, .int .i64 (k : Int), .int .i64 i] 25))
      replace o1 := Lib.hid (o1.out.alloc (.cells #[.int .i64 3, .int .i64 wd, .bool false, .int .i64 (k : Int), .int .i64 i] 25))
      replace o2 := Lib.hid (o2.out.alloc (.cells #[.int .i64 3, .int .i64 wd, .bool false, .int .i64 (k : Int), .int .i64 i] 25))
      obtain ⟨wb, hwb⟩ : ∃ wa, w4.alloc (.cells #[.int .i64 3, .int .i64 wd, .bool false, .int .i64 (k : Int), .int .i64 i] 25) = wa := ⟨_, rfl⟩
      rw [hwb] at HW HP HQ o1 o2
      rw [hgq] at HQ
      have HWB := Lib.hid hwb
      have HGQ := Lib.hid hgq
      clear hwb hgq
      go_upto_region 10 with fail
      rw [HWB.out, HGQ.out]
      clear HWB HGQ p0 p1 p2 p3 p4
      have q2 := HQ.out.cell 2 _ rfl
      have f2 := HQ.out.free 2
      replace HQ := Lib.hid (HQ.out.set 2 (.bool true))
      replace HP := Lib.hid (Blk.other (j := 2) HP.out (.bool true) hgne)
      replace o1 := Lib.hid (own_set (j := 2) o1.out (.bool true) (fun e => hn1 (by injection e)))
      replace o2 := Lib.hid (own_set (j := 2) o2.out (.bool true) (fun e => hn2 (by injection e)))
      replace HW := Lib.hid (below_set (j := 2) HW.out hWq (.bool true))
      go_upto_region 11 with fail
      clear q2 f2
      revert HQ HP o1 o2 HW
      generalize (World.setCell _ _ _) = wc
      intro HQ HP o1 o2 HW
      have q0 := HQ.out.cell 0 _ rfl
      have q1 := HQ.out.cell 1 _ rfl
      have q2 := HQ.out.cell 2 _ rfl
      have q3 := HQ.out.cell 3 _ rfl
      have q4 := HQ.out.cell 4 _ rfl
      go_wp2_with fail
      refine (implSto_any 3 wd true k i _ _ c2 l p true _ (own_reads o2.out) (by omega) HS.out).mono ?_
      rintro e w5 ⟨rfl, hb⟩
      replace HW := Lib.hid (pass HW.out hb)
      replace o1 := Lib.hid (own_below o1.out hb)
      replace o2 := Lib.hid (own_below o2.out hb)
      replace HP := Lib.hid (Blk.kept hb HP.out)
      clear hb HQ HS
      clear q0 q1 q2 q3 q4
      have p3 := HP.out.cell 3 _ rfl
      have u2 := cell_own o2.out (by omega) HLK.out
      go_upto_region 14 with fail
      clear p3 u2
      go_wp2_with fail
      go_loopw [13] (fun v wr => ∃ j : Nat, v = .int .i64 j ∧ j ≤ 4 ∧ Hid (Blk wr g 25 #[.int .i64 3, .int .i64 wd, .bool false, .int .i64 (k : Int), .int .i64 i]) ∧ Hid (wr.ownsRow W.heap.size 3 1 (.slice (some ⟨g1, 0, none⟩) L.length c1) L.length (I L)) ∧ Hid (wr.ownsRow W.heap.size 3 1 (.slice (some ⟨g2, 0, none⟩) l.length c2) l.length (I l)) ∧ Hid (Below W.heap.size W wr)) (fun v _ => (4 - intOf v).toNat)
      case atStart => exact ⟨0, by go_num, by omega, HP, o1, o2, HW⟩
      case round =>
        clear HP o1 o2 HW
        obtain ⟨j, rfl, hj, HP, o1, o2, HW⟩ := hrel
        by_cases hj4 : (j : Int) < 4
        · have p3 := HP.out.cell 3 _ rfl
          obtain ⟨z, hz⟩ : ∃ z, L[j]? = some z := ⟨_, List.getElem?_eq_getElem (by have := HM4.out; omega)⟩
          have u1 := cell_own o1.out (by have := HM4.out; omega) hz
          by_cases hjk : j = k
          · subst hjk
            have u2 := cell_own o2.out (by omega) HLK.out
            have hjl : (j : Int) < (L.length : Int) := by have := HM4.out; omega
            clear hz
            go_upto_region 17 with fail
            go_quiet (fail)
            go_wp2_with fail
            go_roundw
            case rel => exact ⟨j + 1, by go_num, by omega, HP, o1, o2, Lib.hid (below_then HW.out (Own.below_drewN _ _))⟩
            case measure => simp [intOf]; omega
          · have u2 := cell_own o2.out (by have := HL4.out; omega) ((HLO.out j hjk).trans hz)
            have hjl : (j : Int) < (L.length : Int) := by have := HM4.out; omega
            have hjll : (j : Int) < (l.length : Int) := by have := HL4.out; omega
            have hjk2 : ((j : Int) == (k : Int)) = false := by simp; omega
            have hjk3 : decide ((j : Int) = (k : Int)) = false := by simp; omega
            have hjk4 : ((j : Int) != (k : Int)) = true := by simp; omega
            have hjk5 : decide (j = k) = false := decide_eq_false hjk
            have hjk6 : (j == k) = false := by simpa using hjk
            clear hz
            go_upto_region 17 with fail
            go_quiet (fail)
            go_wp2_with fail
            go_roundw
            case rel => exact ⟨j + 1, by go_num, by omega, HP, o1, o2, Lib.hid (below_then HW.out (Own.below_drewN _ _))⟩
            case measure => simp [intOf]; omega
        · go_wp2_with fail
          go_meet
          exact HW
  case rest =>
    clear HW HP HY o1 o2
    have HW := hcut
    clear hcut
    go_wp2_with fail
    refine (drawSto_any _ A n c zs HZ.out (HR.out _ HW.out) hn).mono ?_
    rintro e w5 ⟨sc, sw, ss, sr, si, A4, c4, M, rfl, hM, hown, hb⟩
    replace HW := Lib.hid (pass HW.out hb)
    have o4 := Lib.hid hown
    clear hown hb
    replace HW := Lib.hid (below_more HW.out (.cells #[.int .i64 sc, .int .i64 sw, .bool ss, .int .i64 sr, .int .i64 si] 25))
    have HU := Lib.hid (Blk.new w5 #[.int .i64 sc, .int .i64 sw, .bool ss, .int .i64 sr, .int .i64 si] 25)
    replace o4 := Lib.hid (o4.out.alloc (.cells #[.int .i64 sc, .int .i64 sw, .bool ss, .int .i64 sr, .int .i64 si] 25))
    obtain ⟨gu, hg2⟩ : ∃ g, w5.heap.size = g := ⟨_, rfl⟩
    obtain ⟨wa2, hwa2⟩ : ∃ wa, w5.alloc (.cells #[.int .i64 sc, .int .i64 sw, .bool ss, .int .i64 sr, .int .i64 si] 25) = wa := ⟨_, rfl⟩
    rw [hwa2] at HW HU o4
    rw [hg2] at HU
    have HA2 := Lib.hid hwa2
    have HG2 := Lib.hid hg2
    clear hwa2 hg2
    go_upto_region 20 with fail
    rw [HA2.out, HG2.out]
    clear HA2 HG2
    obtain ⟨y, hy⟩ : ∃ y, stoAns ⟨sc, sw, ss, sr, si⟩ M = y := ⟨_, rfl⟩
    obtain ⟨p, b2⟩ := y
    have HS := Lib.hid hy
    clear hy
    have q0 := HU.out.cell 0 _ rfl
    have q1 := HU.out.cell 1 _ rfl
    have q2 := HU.out.cell 2 _ rfl
    have q3 := HU.out.cell 3 _ rfl
    have q4 := HU.out.cell 4 _ rfl
    go_wp2_with fail
    refine (implSto_any sc sw ss sr si A4 _ c4 M p b2 _ (own_reads o4.out) (by omega) HS.out).mono ?_
    rintro e w6 ⟨rfl, hb⟩
    replace HW := Lib.hid (pass HW.out hb)
    replace o4 := Lib.hid (own_below o4.out hb)
    replace HU := Lib.hid (Blk.kept hb HU.out)
    clear hb
    clear q0 q1 q2 q3 q4
    have q0 := HU.out.cell 0 _ rfl
    have q1 := HU.out.cell 1 _ rfl
    have q2 := HU.out.cell 2 _ rfl
    have q3 := HU.out.cell 3 _ rfl
    have q4 := HU.out.cell 4 _ rfl
    go_wp2_with fail
    refine (specSto_any sc sw ss sr si A4 _ c4 M p b2 _ (own_reads o4.out) (by omega) HS.out).mono ?_
    rintro e w7 ⟨rfl, hb⟩
    replace HW := Lib.hid (pass HW.out hb)
    clear hb HU o4 HS
    clear q0 q1 q2 q3 q4
    go_wp2_with fail
    refine (drawFault_any _ A n c zs HZ.out (HR.out _ HW.out) hn).mono ?_
    rintro e w8 ⟨⟨pg, wr, rfl⟩, hb⟩
    replace HW := Lib.hid (pass HW.out hb)
    clear hb
    obtain ⟨y, hy⟩ : ∃ y, okAns ⟨1, 0, wr, 0, pg⟩ = y := ⟨_, rfl⟩
    obtain ⟨⟨h0, h1, h2, h3, h4⟩, f⟩ := y
    have HF := Lib.hid hy
    clear hy
    go_wp2_with fail
    refine (implFault_any pg wr h0 h1 h2 h3 h4 f _ HF.out).mono ?_
    rintro e w9 ⟨rfl, hb⟩
    replace HW := Lib.hid (pass HW.out hb)
    clear hb
    replace HW := Lib.hid (below_more HW.out (.cells #[.int .i64 h0, .int .i64 h1, .bool h2, .int .i64 h3, .int .i64 h4] 25))
    have HU := Lib.hid (Blk.new w9 #[.int .i64 h0, .int .i64 h1, .bool h2, .int .i64 h3, .int .i64 h4] 25)
    obtain ⟨gu2, hg3⟩ : ∃ g, w9.heap.size = g := ⟨_, rfl⟩
    obtain ⟨wa3, hwa3⟩ : ∃ wa, w9.alloc (.cells #[.int .i64 h0, .int .i64 h1, .bool h2, .int .i64 h3, .int .i64 h4] 25) = wa := ⟨_, rfl⟩
    rw [hwa3] at HW HU
    rw [hg3] at HU
    have HA3 := Lib.hid hwa3
    have HG3 := Lib.hid hg3
    clear hwa3 hg3
    go_upto_region 26 with fail
    rw [HA3.out, HG3.out]
    clear HA3 HG3
    go_wp2_with fail
    refine (specFault_any pg wr h0 h1 h2 h3 h4 f _ HF.out).mono ?_
    rintro e w10 ⟨rfl, hb⟩
    replace HW := Lib.hid (pass HW.out hb)
    replace HU := Lib.hid (Blk.kept hb HU.out)
    clear hb
    replace HW := Lib.hid (below_more HW.out (.cells #[.int .i64 h0, .int .i64 h1, .bool h2, .int .i64 h3, .int .i64 h4] 25))
    have HX := Lib.hid (Blk.new w10 #[.int .i64 h0, .int .i64 h1, .bool h2, .int .i64 h3, .int .i64 h4] 25)
    replace HU := Lib.hid (HU.out.alloc (.cells #[.int .i64 h0, .int .i64 h1, .bool h2, .int .i64 h3, .int .i64 h4] 25))
    obtain ⟨gx, hg4⟩ : ∃ g, w10.heap.size = g := ⟨_, rfl⟩
    obtain ⟨wa4, hwa4⟩ : ∃ wa, w10.alloc (.cells #[.int .i64 h0, .int .i64 h1, .bool h2, .int .i64 h3, .int .i64 h4] 25) = wa := ⟨_, rfl⟩
    rw [hwa4] at HW HX HU
    rw [hg4] at HX
    have HA4 := Lib.hid hwa4
    have HG4 := Lib.hid hg4
    clear hwa4 hg4
    go_upto_region 27 with fail
    rw [HA4.out, HG4.out]
    clear HA4 HG4
    go_cut [166] from 167 (fun p wx => p = .bool false ∧ Hid (Below W.heap.size W wx))
    case first =>
      have v0 := HU.out.cell 0 _ rfl
      have v1 := HU.out.cell 1 _ rfl
      have v2 := HU.out.cell 2 _ rfl
      have v3 := HU.out.cell 3 _ rfl
      have v4 := HU.out.cell 4 _ rfl
      have x0 := HX.out.cell 0 _ rfl
      have x1 := HX.out.cell 1 _ rfl
      have x2 := HX.out.cell 2 _ rfl
      have x3 := HX.out.cell 3 _ rfl
      have x4 := HX.out.cell 4 _ rfl
      cases f
      · go_wp2_with fail
        go_meet
        exact ⟨rfl, HW⟩
      · have HOK := Lib.hid (ok_of HF.out)
        go_wp2_with fail
        refine (implIs_c h0 h1 h2 h3 h4 _ true HOK.out).mono ?_
        rintro e w11 ⟨rfl, hb⟩
        replace HW := Lib.hid (pass HW.out hb)
        clear hb
        go_wp2_with fail
        go_meet
        exact ⟨rfl, HW⟩
    case rest =>
      clear HW HU HX HF
      obtain ⟨rfl, HW⟩ := hcut
      go_wp2_with fail
      refine (drawDevice_any _ A n c zs HZ.out (HR.out _ HW.out) hn).mono ?_
      rintro e w11 ⟨⟨ad, wi, rg, wy, rfl⟩, hb⟩
      replace HW := Lib.hid (pass HW.out hb)
      clear hb
      obtain ⟨y, hy⟩ : ∃ y, okAns ⟨3, wi, wy, rg, ad⟩ = y := ⟨_, rfl⟩
      obtain ⟨⟨k0, k1, k2, k3, k4⟩, f⟩ := y
      have HF := Lib.hid hy
      clear hy
      go_wp2_with fail
      refine (implDevice_any ad wi rg wy k0 k1 k2 k3 k4 f _ HF.out).mono ?_
      rintro e w12 ⟨rfl, hb⟩
      replace HW := Lib.hid (pass HW.out hb)
      clear hb
      replace HW := Lib.hid (below_more HW.out (.cells #[.int .i64 k0, .int .i64 k1, .bool k2, .int .i64 k3, .int .i64 k4] 25))
      have HU := Lib.hid (Blk.new w12 #[.int .i64 k0, .int .i64 k1, .bool k2, .int .i64 k3, .int .i64 k4] 25)
      obtain ⟨gu3, hg5⟩ : ∃ g, w12.heap.size = g := ⟨_, rfl⟩
      obtain ⟨wa5, hwa5⟩ : ∃ wa, w12.alloc (.cells #[.int .i64 k0, .int .i64 k1, .bool k2, .int .i64 k3, .int .i64 k4] 25) = wa := ⟨_, rfl⟩
      rw [hwa5] at HW HU
      rw [hg5] at HU
      have HA5 := Lib.hid hwa5
      have HG5 := Lib.hid hg5
      clear hwa5 hg5
      go_upto_region 31 with fail
      rw [HA5.out, HG5.out]
      clear HA5 HG5
      go_wp2_with fail
      refine (specDevice_any ad wi rg wy k0 k1 k2 k3 k4 f _ HF.out).mono ?_
      rintro e w13 ⟨rfl, hb⟩
      replace HW := Lib.hid (pass HW.out hb)
      replace HU := Lib.hid (Blk.kept hb HU.out)
      clear hb
      replace HW := Lib.hid (below_more HW.out (.cells #[.int .i64 k0, .int .i64 k1, .bool k2, .int .i64 k3, .int .i64 k4] 25))
      have HX := Lib.hid (Blk.new w13 #[.int .i64 k0, .int .i64 k1, .bool k2, .int .i64 k3, .int .i64 k4] 25)
      replace HU := Lib.hid (HU.out.alloc (.cells #[.int .i64 k0, .int .i64 k1, .bool k2, .int .i64 k3, .int .i64 k4] 25))
      obtain ⟨gx3, hg6⟩ : ∃ g, w13.heap.size = g := ⟨_, rfl⟩
      obtain ⟨wa6, hwa6⟩ : ∃ wa, w13.alloc (.cells #[.int .i64 k0, .int .i64 k1, .bool k2, .int .i64 k3, .int .i64 k4] 25) = wa := ⟨_, rfl⟩
      rw [hwa6] at HW HX HU
      rw [hg6] at HX
      have HA6 := Lib.hid hwa6
      have HG6 := Lib.hid hg6
      clear hwa6 hg6
      go_upto_region 32 with fail
      rw [HA6.out, HG6.out]
      clear HA6 HG6
      have v0 := HU.out.cell 0 _ rfl
      have v1 := HU.out.cell 1 _ rfl
      have v2 := HU.out.cell 2 _ rfl
      have v3 := HU.out.cell 3 _ rfl
      have v4 := HU.out.cell 4 _ rfl
      have x0 := HX.out.cell 0 _ rfl
      have x1 := HX.out.cell 1 _ rfl
      have x2 := HX.out.cell 2 _ rfl
      have x3 := HX.out.cell 3 _ rfl
      have x4 := HX.out.cell 4 _ rfl
      go_wp2_with fail
      go_ret
      exact ⟨by simp, HW.out⟩

set_option maxHeartbeats 4000000 in
set_option maxRecDepth 100000 in
/-- the law's Go text returns true, and nothing that was there has turned -/
theorem walk {H : Type} {enc : TypeId × Value → H} (W : World) (base : Nat) (v0 : Value) (d0 : DataW H) (p0 : List MemPlace) (q0 : Value.okWide Try.prog W .any base 57 v0) (h0 : DataW.Trod enc Try.prog W 0 (fun _ => true) true 57 v0 d0 p0) (l0 : ∀ x ∈ p0, x.block < W.heap.size) (hL : laidMetH Try.prog Rows.fnTrapValuesRow.laid W) (hsh : W.ShapedOpen Try.prog) :
    Calls Try.prog 12 #[v0] W fun e W' => e = .returned (.bool true) ∧ Below W.heap.size W W' := by
  clear hsh
  obtain ⟨A, n, c, zs, rfl, hc, hcm, hl, hwf, hr⟩ := open_nums Try.underlying57 Try.underlying5 (by kernel_rfl) q0 h0
  exact walk0 W A n c zs (fun z hz => bounds_u8 (hwf z hz)) hr
theorem laid_met (os : Os) : laidMetH Try.prog Rows.fnTrapValuesRow.laid ((World.holding Try.prog os ⟨#[], #[], []⟩).forCall (fun _ _ => 0) ⟨#[], #[(.slice none 0 0 : Value)], []⟩).memory := ⟨[], rfl, List.nodup_nil, fun _ _ h => by cases h⟩
theorem reads (os : Os) {H : Type} (enc : TypeId × Value → H) : (DataW.whole enc Try.prog ((World.holding Try.prog os ⟨#[], #[], []⟩).forCall (fun _ _ => 0) ⟨#[], #[(.slice none 0 0 : Value)], []⟩).memory Try.f12.params.toList Rows.fnTrapValuesSpec.vars false #[(.slice none 0 0 : Value)].toList 8).isSome = true := by kernel_rfl
set_option maxRecDepth 100000 in
theorem lifted (os : Os) (started : os.Started) (H : Type) (enc : TypeId × Value → H) (F : Stop.Interp) :
    ReturnsInHanded {} Try.checked os 12 .any ((OpenSpec.ofChange Rows.fnTrapValuesSpec).preRow enc Try.prog Try.f12 Rows.fnTrapValuesRow.domain false Rows.fnTrapValuesRow.laid) (((OpenSpec.ofChange Rows.fnTrapValuesSpec).at F).post enc Try.prog Try.f12 false true false false) := by
  obtain ⟨x, hx⟩ := Option.isSome_iff_exists.1 (reads os enc)
  refine returnsInHanded_of_row (C := Try.checked) (s := OpenSpec.ofChange Rows.fnTrapValuesSpec) own started (by kernel_rfl) Try.func12
    (witness_row_at (enc := enc) (C := Try.checked) false (World.holding Try.prog os ⟨#[], #[], []⟩) #[(.slice none 0 0 : Value)] rfl (by kernel_rfl) (by kernel_rfl) (by kernel_rfl)
      (OpenSpec.preRow_of_cond 8 hx (by rfl) (fun k hk => by cases hk) (by kernel_rfl) (laid_met os))) ?_
  intro W base args ds gs before hval0 hW _ hcond hsz hL hsh _
  have hval : ∀ (j : Nat) t v, Try.f12.params[j]? = some t → args[j]? = some v → Value.okWide Try.prog W .any base t v := hval0
  have hW' := hW
  obtain ⟨p, q, hA0, hV, rfl, hfz, hnd⟩ := hW
  have hA : DataW.TrodAll enc Try.prog W 0 (fun _ => true) true Try.f12.params.toList args.toList ds p := hA0
  rw [Try.params12] at hA hval
  obtain ⟨v0, vs0, d0, ds0, p0, q0, hargs, rfl, rfl, h0, r0⟩ := trodAll_cons hA
  obtain ⟨rfl, rfl, rfl⟩ := trodAll_nil r0
  obtain rfl : args = #[v0] := by cases args; simp_all
  obtain ⟨rfl, rfl⟩ := trodVars_none hV
  clear hA0 hval0
  simp only [List.append_nil] at hW'
  refine (walk (enc := enc) W base v0 d0 p0 (hval 0 57 v0 rfl rfl) h0 (fun x hx => hW'.lt x (by simp [hx])) hL hsh).mono fun e W' ⟨he, hb⟩ => ⟨_, he, Fr.post_true laidOut (by kernel_rfl) (by kernel_rfl) Try.underlying4 rfl hW' (fun xs hx => by match xs, hx with | [x0], _ => rfl) hb⟩
theorem said : Rows.FnTrapValuesSaid :=
  OpenClaim.holds_of_cond 12 Try.f12 rfl rfl rfl rfl rfl rfl rfl ⟨rfl, rfl, rfl, rfl, rfl⟩ rfl rfl rfl rfl rfl (by kernel_rfl) Try.func12 (by kernel_rfl)
    (of_decide_eq_true (by kernel_rfl)) (by unfold Func.isWrapper; first | (rw [if_pos (by decide +kernel)]; kernel_rfl) | (rw [if_neg (by decide +kernel)]; exact ⟨rfl, rfl⟩))
    (fun os started H enc _ F => by rw [OpenClaim.pre_eq_preRow]; exact lifted os started H enc F)
#print axioms said
end Go.Proofs.Ytaamjnpknmimmaa.fnTrapValues
