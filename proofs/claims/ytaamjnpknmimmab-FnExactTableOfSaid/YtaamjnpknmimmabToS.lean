/- What TableOf of spec answers. -/
import Derived.Test.YtaamjnpknmimmabToP
import Derived.Deep.RegionHeld3
namespace Go.Proofs.Ytaamjnpknmimmab.L4
open Go Go.RowKit Go.Proofs.Ytaamjnpknmimmab.Mem Go.Proofs.Ytaamjnpknmimmab.Own Go.Proofs.Ytaamjnpknmimmab.L1
set_option maxRecDepth 100000 in
set_option maxHeartbeats 600000 in
theorem specTab_any (A1 : Option Addr) (n1 c1 : Nat) (ps : List Int) (A2 : Option Addr) (n2 c2 : Nat) (fs : List Int) (w : World) (hr1 : Reads w w.heap.size 1 A1 n1 (I ps)) (hr2 : Reads w w.heap.size 1 A2 n2 (I fs)) (hn1 : n1 ≤ 1048576) (hn2 : n2 ≤ 1048576) (T : Tab) (b : Bool) (hT : tabAns ps fs = (T, b)) :
    Calls Try.prog 15 #[.slice A1 n1 c1, .slice A2 n2 c2] w (MrPost w T b) := by
  have hl1 : ps.length = n1 := by have := hr1.len; rwa [I_len] at this
  have hl2 : fs.length = n2 := by have := hr2.len; rwa [I_len] at this
  have HL1 := Lib.hid hl1
  have HL2 := Lib.hid hl2
  have HT := Lib.hid hT
  have HR1 := Lib.hid hr1
  have HR2 := Lib.hid hr2
  have HQ0 := Lib.hid (Blk.new w #[.slice none 0 0, .slice none 0 0] 29)
  have HB0 := Lib.hid (below_more (Below.refl w.heap.size w) (.cells #[.slice none 0 0, .slice none 0 0] 29))
  clear hT hr1 hr2
  by_cases hlen : n1 = n2
  case neg =>
    obtain ⟨rfl, rfl⟩ := tab_no HT.out (by rw [hl1, hl2]; exact hlen)
    have hne : ¬ (n1 : Int) = n2 := by omega
    have hne2 : ((n1 : Int) != n2) = true := by simp; omega
    have HQ := HQ0
    have HB := HB0
    clear HT hl1 hl2 hlen HQ0 HB0 HL1 HL2
    obtain ⟨wb, hwb⟩ : ∃ wb, w.alloc (.cells #[.slice none 0 0, .slice none 0 0] 29) = wb := ⟨_, rfl⟩
    rw [hwb] at HQ HB
    have HWB := Lib.hid hwb
    clear hwb
    go_enter Try.func15, Try.ntmps15
    go_upto_region 1 with fail
    rw [HWB.out]
    clear HWB
    have r0 := HQ.out.cell 0 _ rfl
    have s0 := HQ.out.free 0
    have r1 := HQ.out.cell 1 _ rfl
    have s1 := HQ.out.free 1
    have HX := Lib.hid (AtMR.zero (R := w.heap.size) HB.out (Nat.le_refl _))
    have HZ := Lib.hid (Blk.set (Blk.set HQ.out 0 (.slice none 0 0)) 1 (.slice none 0 0))
    go_wp2_with fail
    clear r0 r1 s0 s1
    revert HX HZ
    generalize ((World.setCell _ _ _).setCell _ _) = wz
    intro HX HZ
    have z0 := HZ.out.cell 0 _ rfl
    have z1 := HZ.out.cell 1 _ rfl
    exact bodyPost_ret (v := .tuple #[.agg #[.slice none 0 0, .slice none 0 0], .bool false]) (by simp [results, Try.results15, go_sem, z0, z1]) rfl HX.out
  subst hlen
  have HE : Hid (ps.length = fs.length) := Lib.hid (by rw [hl1, hl2])
  clear hl1 hl2
  go_enter Try.func15, Try.ntmps15
  go_wp2_with fail
  refine (l4New_any _).mono ?_
  rintro e w1 ⟨A', D', rfl, hown, hb⟩
  have HA0 : Hid (AtMR w (w1.alloc (.cells #[.slice A' 4 4, .slice D' 0 0] 29)) w1.heap.size w.heap.size A' 4 D' 0 newTab 0) := Lib.hid (by
    have hs := hb.size
    rw [size1] at hs
    have ho := (hown.below (below_more (Below.refl _ _) (.cells #[.slice A' 4 4, .slice D' 0 0] 29)))
    exact ⟨Blk.new _ _ _, (Blk.kept hb HQ0.out).alloc _, ho.reads, fun h => absurd h (by decide), by decide, small_new, below_more (below_then HB0.out hb) _, by omega, Nat.le_refl _, by omega⟩)
  have HOW : Hid (OwnT (w1.alloc (.cells #[.slice A' 4 4, .slice D' 0 0] 29)) w.heap.size (w1.alloc (.cells #[.slice A' 4 4, .slice D' 0 0] 29)).heap.size A' 4 4 D' 0 0 newTab) := Lib.hid ((hown.below (below_more (Below.refl _ _) _)).mono (by rw [size1]; omega) (alloc_le _ _))
  obtain ⟨O, hO⟩ : ∃ O, w1.heap.size = O := ⟨_, rfl⟩
  obtain ⟨wa, hwa⟩ : ∃ wa, w1.alloc (.cells #[.slice A' 4 4, .slice D' 0 0] 29) = wa := ⟨_, rfl⟩
  rw [hwa, hO] at HA0
  rw [hwa] at HOW
  have HWA := Lib.hid hwa
  have HO := Lib.hid hO
  clear hwa hO hown hb HQ0 HB0
  go_upto_region 4 with fail
  rw [HWA.out, HO.out]
  clear HWA HO
  go_wp2_with fail
  go_loopw [7] (fun i wr => ∃ (k : Nat) (A' : Option Addr) (c' : Nat) (D' : Option Addr) (d' : Nat) (T' : Tab), i = .int .i64 k ∧ k ≤ n1 ∧ Hid (tabN ps fs k = some T') ∧ Hid (AtMR w wr O w.heap.size A' c' D' d' T' k) ∧ Hid (OwnT wr w.heap.size wr.heap.size A' T'.dirs.length c' D' T'.leaves.length d' T')) (fun i _ => n1 - (intOf i).toNat)
  case atStart => exact ⟨0, _, _, _, _, newTab, rfl, Nat.zero_le _, Lib.hid rfl, HA0, HOW⟩
  case round =>
    clear HA0 HOW
    obtain ⟨k, A', c', D', d', T', rfl, hk, HM, HA, HOW⟩ := hrel
    by_cases hlt : k < n1
    · have HRa := (HR1.out.below HA.out.below).more HA.out.below.size
      have HRb := (HR2.out.below HA.out.below).more HA.out.below.size
      obtain ⟨b1, o1, pg, rfl, _, hu1, hc1⟩ := HRa.int_at hlt
      obtain ⟨b2, o2, fr, rfl, _, hu2, hc2⟩ := HRb.int_at hlt
      have hg1 : ps.getD k 0 = pg := by rw [List.getD, hu1]; rfl
      have hg2 : fs.getD k 0 = fr := by rw [List.getD, hu2]; rfl
      have o0 := HA.out.out.cell 0 _ rfl
      have o1' := HA.out.out.cell 1 _ rfl
      have hltI : (k : Int) < n1 := by omega
      clear HRa HRb hu1 hu2
      by_cases hcan : CanM T' pg fr
      · obtain ⟨T2, hT2⟩ : ∃ T2, (mapOf T' pg fr true).1 = T2 := ⟨_, rfl⟩
        have hmap := mapOf_yes (wr := true) hcan
        have HN2 := Lib.hid (tabN_succ HM.out (by rw [hg1, hg2]; exact hcan))
        rw [hg1, hg2] at HN2
        have hsm := map_small (wr := true) hcan
        rw [hT2] at hmap HN2 hsm
        have HMAP := Lib.hid hmap
        have HSM := Lib.hid hsm
        clear hcan hT2 hmap hsm hg1 hg2
        go_upto_region 7 with fail
        go_cut [8, 9] from 23 to 35 (fun p q wx => ∃ N A2 c2 D2 d2, p = .pointer (some ⟨N, 0, none⟩) ∧ q = .bool true ∧ Hid (AtMN w wx O w.heap.size N (.slice A' T'.dirs.length c') (.slice D' T'.leaves.length d') A2 c2 D2 d2 T2))
        case first =>
          have HF : Hid (∀ w2, Below wr.heap.size wr w2 → w2.cell? ⟨O, 0, none⟩ = some (.slice A' T'.dirs.length c') ∧ w2.cell? ⟨O, 1, none⟩ = some (.slice D' T'.leaves.length d') ∧ w2.cell? ⟨b1, o1 + k, none⟩ = some (.int .i64 pg) ∧ w2.cell? ⟨b2, o2 + k, none⟩ = some (.int .i64 fr)) := Lib.hid (fun w2 hb => ⟨cell_bl hb o0, cell_bl hb o1', cell_bl hb hc1, cell_bl hb hc2⟩)
          have hra := (HA.out.reads.grow (below_more (Below.refl _ _) (.cells #[.slice none 0 0, .slice none 0 0] 29))).drew
          have HC1 := Lib.hid (specMap_any A' _ c' D' _ d' pg fr true T' wr.drew HA.out.reads.drew HA.out.small.1 HA.out.small.2.1 HA.out.small.leaf HA.out.cap T2 true HMAP.out)
          have HC2 := Lib.hid (specMap_any A' _ c' D' _ d' pg fr true T' (wr.alloc (.cells #[.slice none 0 0, .slice none 0 0] 29)).drew hra HA.out.small.1 HA.out.small.2.1 HA.out.small.leaf HA.out.cap T2 true HMAP.out)
          clear hra o0 o1' hc1 hc2
          obtain ⟨ee0, ee1, ee2, ee3⟩ := HF.out wr.drew (below_drew1 wr)
          obtain ⟨ea0, ea1, ea2, ea3⟩ := HF.out (wr.alloc (.cells #[.slice none 0 0, .slice none 0 0] 29)) (below_more (Below.refl _ _) _)
          obtain ⟨en0, en1, en2, en3⟩ := HF.out (wr.alloc (.cells #[.slice none 0 0, .slice none 0 0] 29)).drew (below_then (below_more (Below.refl _ _) _) (below_drew1 _))
          obtain ⟨kk0, kk1, kk2, kk3⟩ := HF.out wr (Below.refl _ _)
          go_region_held3 (fun w' => w'.cell? ⟨O, 0, none⟩ = some (.slice A' T'.dirs.length c') ∧ w'.cell? ⟨O, 1, none⟩ = some (.slice D' T'.leaves.length d') ∧ w'.cell? ⟨b1, o1 + k, none⟩ = some (.int .i64 pg) ∧ w'.cell? ⟨b2, o2 + k, none⟩ = some (.int .i64 fr)) (first | (with_reducible exact ⟨ee0, ee1, ee2, ee3⟩) | (with_reducible exact ⟨en0, en1, en2, en3⟩) | (with_reducible exact ⟨kk0, kk1, kk2, kk3⟩) | (with_reducible exact ⟨ea0, ea1, ea2, ea3⟩) | (with_reducible exact ⟨mm0, mm1, mm2, mm3⟩) | (with_reducible exact ⟨ss0, ss1, ss2, ss3⟩) | fail)
            (first
              | (go_at_call 42; (with_reducible refine HC1.out.mono ?_); rintro e w2 ⟨A2, c2, D2, d2, rfl, hown, hb⟩; replace hb : Below wr.heap.size wr w2 := (below_drew1 wr).trans hb; clear kk0 kk1 kk2 kk3; obtain ⟨kk0, kk1, kk2, kk3⟩ := HF.out w2 hb; obtain ⟨mm0, mm1, mm2, mm3⟩ := HF.out (w2.alloc (.cells #[.slice none 0 0, .slice none 0 0] 29)) (below_more hb _); obtain ⟨ss0, ss1, ss2, ss3⟩ := HF.out (w2.alloc (.cells #[.slice A2 T2.dirs.length c2, .slice D2 T2.leaves.length d2] 29)) (below_more hb _))
              | (go_at_call 42; (with_reducible refine HC2.out.mono ?_); rintro e w2 ⟨A2, c2, D2, d2, rfl, hown, hb⟩; replace hb : Below (wr.alloc (.cells #[.slice none 0 0, .slice none 0 0] 29)).heap.size (wr.alloc (.cells #[.slice none 0 0, .slice none 0 0] 29)) w2 := (below_drew1 (wr.alloc (.cells #[.slice none 0 0, .slice none 0 0] 29))).trans hb; have hb2 := below_then (below_more (Below.refl wr.heap.size wr) (.cells #[.slice none 0 0, .slice none 0 0] 29)) hb; clear kk0 kk1 kk2 kk3; obtain ⟨kk0, kk1, kk2, kk3⟩ := HF.out w2 hb2; obtain ⟨ss0, ss1, ss2, ss3⟩ := HF.out ((w2.setCell ⟨wr.heap.size, 0, none⟩ (.slice A2 T2.dirs.length c2)).setCell ⟨wr.heap.size, 1, none⟩ (.slice D2 T2.leaves.length d2)) (below_set (below_set hb2 (Nat.le_refl _) _) (Nat.le_refl _) _); have hNB := Blk.kept hb (Blk.new wr #[.slice none 0 0, .slice none 0 0] 29); have d0 := hNB.cell 0 _ rfl; have d1 := hNB.cell 1 _ rfl; have f0 := hNB.free 0; have f1 := hNB.free 1)
              | fail)
          all_goals (go_wp2_with fail; go_meet)
          · exact ⟨w2.heap.size, A2, c2, D2, d2, rfl, rfl, Lib.hid (AtMN.of HA.out hown hb HSM.out)⟩
          · exact ⟨wr.heap.size, A2, c2, D2, d2, rfl, rfl, Lib.hid (AtMN.early HA.out hown hb HSM.out)⟩
        case rest =>
          obtain ⟨N, A3, c3, D3, d3, rfl, rfl, HN⟩ := hcut
          clear o0 o1' hc1 hc2 HA HOW
          have n0 := HN.out.nxt.cell 0 _ rfl
          have n1' := HN.out.nxt.cell 1 _ rfl
          have o0 := HN.out.out.cell 0 _ rfl
          have o1' := HN.out.out.cell 1 _ rfl
          have f0 := HN.out.out.free 0
          have f1 := HN.out.out.free 1
          have HST := Lib.hid (AtMN.store (k := k) HN.out)
          have HOW := Lib.hid (HST.out.own (Nat.succ_pos k))
          clear HN
          go_wp2_with fail
          go_roundw
          case rel => exact ⟨k + 1, _, _, _, _, T2, by go_num, by omega, HN2, HST, HOW⟩
          case measure => simp [intOf]; omega
      · obtain ⟨rfl, rfl⟩ := tab_stop HT.out HM.out (by rw [hg1, hg2]; exact hcan) (by rw [HL1.out]; exact hlt)
        have HMAP := Lib.hid (mapOf_no (wr := true) hcan)
        clear hcan HT hg1 hg2
        go_upto_region 7 with fail
        go_cut [8, 9] from 23 to 35 (fun p q wx => ∃ N : Nat, p = .pointer (some ⟨N, 0, none⟩) ∧ q = .bool false ∧ Hid (Blk wx w.heap.size 29 #[.slice none 0 0, .slice none 0 0]) ∧ Hid (Below w.heap.size w wx))
        case first =>
          have HF : Hid (∀ w2, Below wr.heap.size wr w2 → w2.cell? ⟨O, 0, none⟩ = some (.slice A' T'.dirs.length c') ∧ w2.cell? ⟨O, 1, none⟩ = some (.slice D' T'.leaves.length d') ∧ w2.cell? ⟨b1, o1 + k, none⟩ = some (.int .i64 pg) ∧ w2.cell? ⟨b2, o2 + k, none⟩ = some (.int .i64 fr)) := Lib.hid (fun w2 hb => ⟨cell_bl hb o0, cell_bl hb o1', cell_bl hb hc1, cell_bl hb hc2⟩)
          have hra := (HA.out.reads.grow (below_more (Below.refl _ _) (.cells #[.slice none 0 0, .slice none 0 0] 29))).drew
          have HC1 := Lib.hid (specMap_any A' _ c' D' _ d' pg fr true T' wr.drew HA.out.reads.drew HA.out.small.1 HA.out.small.2.1 HA.out.small.leaf HA.out.cap noTab false HMAP.out)
          have HC2 := Lib.hid (specMap_any A' _ c' D' _ d' pg fr true T' (wr.alloc (.cells #[.slice none 0 0, .slice none 0 0] 29)).drew hra HA.out.small.1 HA.out.small.2.1 HA.out.small.leaf HA.out.cap noTab false HMAP.out)
          clear hra o0 o1' hc1 hc2
          obtain ⟨ee0, ee1, ee2, ee3⟩ := HF.out wr.drew (below_drew1 wr)
          obtain ⟨ea0, ea1, ea2, ea3⟩ := HF.out (wr.alloc (.cells #[.slice none 0 0, .slice none 0 0] 29)) (below_more (Below.refl _ _) _)
          obtain ⟨en0, en1, en2, en3⟩ := HF.out (wr.alloc (.cells #[.slice none 0 0, .slice none 0 0] 29)).drew (below_then (below_more (Below.refl _ _) _) (below_drew1 _))
          obtain ⟨kk0, kk1, kk2, kk3⟩ := HF.out wr (Below.refl _ _)
          go_region_held3 (fun w' => w'.cell? ⟨O, 0, none⟩ = some (.slice A' T'.dirs.length c') ∧ w'.cell? ⟨O, 1, none⟩ = some (.slice D' T'.leaves.length d') ∧ w'.cell? ⟨b1, o1 + k, none⟩ = some (.int .i64 pg) ∧ w'.cell? ⟨b2, o2 + k, none⟩ = some (.int .i64 fr)) (first | (with_reducible exact ⟨ee0, ee1, ee2, ee3⟩) | (with_reducible exact ⟨en0, en1, en2, en3⟩) | (with_reducible exact ⟨kk0, kk1, kk2, kk3⟩) | (with_reducible exact ⟨ea0, ea1, ea2, ea3⟩) | (with_reducible exact ⟨mm0, mm1, mm2, mm3⟩) | (with_reducible exact ⟨ss0, ss1, ss2, ss3⟩) | fail)
            (first
              | (go_at_call 42; (with_reducible refine HC1.out.mono ?_); rintro e w2 ⟨A2, c2, D2, d2, rfl, hown, hb⟩; replace hb : Below wr.heap.size wr w2 := (below_drew1 wr).trans hb; clear kk0 kk1 kk2 kk3; obtain ⟨kk0, kk1, kk2, kk3⟩ := HF.out w2 hb; obtain ⟨mm0, mm1, mm2, mm3⟩ := HF.out (w2.alloc (.cells #[.slice none 0 0, .slice none 0 0] 29)) (below_more hb _); obtain ⟨ss0, ss1, ss2, ss3⟩ := HF.out (w2.alloc (.cells #[.slice A2 noTab.dirs.length c2, .slice D2 noTab.leaves.length d2] 29)) (below_more hb _))
              | (go_at_call 42; (with_reducible refine HC2.out.mono ?_); rintro e w2 ⟨A2, c2, D2, d2, rfl, hown, hb⟩; replace hb : Below (wr.alloc (.cells #[.slice none 0 0, .slice none 0 0] 29)).heap.size (wr.alloc (.cells #[.slice none 0 0, .slice none 0 0] 29)) w2 := (below_drew1 (wr.alloc (.cells #[.slice none 0 0, .slice none 0 0] 29))).trans hb; have hb2 := below_then (below_more (Below.refl wr.heap.size wr) (.cells #[.slice none 0 0, .slice none 0 0] 29)) hb; clear kk0 kk1 kk2 kk3; obtain ⟨kk0, kk1, kk2, kk3⟩ := HF.out w2 hb2; obtain ⟨ss0, ss1, ss2, ss3⟩ := HF.out ((w2.setCell ⟨wr.heap.size, 0, none⟩ (.slice A2 noTab.dirs.length c2)).setCell ⟨wr.heap.size, 1, none⟩ (.slice D2 noTab.leaves.length d2)) (below_set (below_set hb2 (Nat.le_refl _) _) (Nat.le_refl _) _); have hNB := Blk.kept hb (Blk.new wr #[.slice none 0 0, .slice none 0 0] 29); have d0 := hNB.cell 0 _ rfl; have d1 := hNB.cell 1 _ rfl; have f0 := hNB.free 0; have f1 := hNB.free 1)
              | fail)
          all_goals (go_wp2_with fail; go_meet)
          · exact ⟨w2.heap.size, rfl, rfl, Lib.hid ((Blk.kept hb HA.out.res).alloc _), Lib.hid (below_more (below_then HA.out.below hb) _)⟩
          · have hrl := HA.out.res.lt
            have hwl := HA.out.below.size
            exact ⟨wr.heap.size, rfl, rfl, Lib.hid (((Blk.kept hb (HA.out.res.alloc _)).other _ (by omega)).other _ (by omega)), Lib.hid (below_set (below_set (below_then (below_more HA.out.below _) hb) hwl _) hwl _)⟩
        case rest =>
          obtain ⟨N, rfl, rfl, HQ, HB⟩ := hcut
          clear o0 o1' hc1 hc2 HA HOW
          have r0 := HQ.out.cell 0 _ rfl
          have s0 := HQ.out.free 0
          have r1 := HQ.out.cell 1 _ rfl
          have s1 := HQ.out.free 1
          have HX := Lib.hid (AtMR.zero (R := w.heap.size) HB.out (Nat.le_refl _))
          have HZ := Lib.hid (Blk.set (Blk.set HQ.out 0 (.slice none 0 0)) 1 (.slice none 0 0))
          go_wp2_with fail
          clear r0 r1 s0 s1
          revert HX HZ
          generalize ((World.setCell _ _ _).setCell _ _) = wz
          intro HX HZ
          have z0 := HZ.out.cell 0 _ rfl
          have z1 := HZ.out.cell 1 _ rfl
          exact bodyPost_ret (v := .tuple #[.agg #[.slice none 0 0, .slice none 0 0], .bool false]) (by simp [results, Try.results15, go_sem, z0, z1]) rfl HX.out
    · have hkn : k = n1 := by omega
      obtain ⟨hTT, rfl⟩ := tab_end HT.out HE.out (by rw [HL1.out, ← hkn]; exact HM.out)
      replace hTT := hTT.symm
      subst hTT
      clear HT HM
      subst hkn
      have r0 := HA.out.res.cell 0 _ rfl
      have r1 := HA.out.res.cell 1 _ rfl
      have s0 := HA.out.res.free 0
      have s1 := HA.out.res.free 1
      have o0 := HA.out.out.cell 0 _ rfl
      have o1' := HA.out.out.cell 1 _ rfl
      have HX : Hid (MrPost w T' true (.returned (.tuple #[.agg #[.slice A' T'.dirs.length c', .slice D' T'.leaves.length d'], .bool true])) ((wr.setCell ⟨w.heap.size, 0, none⟩ (.slice A' T'.dirs.length c')).setCell ⟨w.heap.size, 1, none⟩ (.slice D' T'.leaves.length d'))) := Lib.hid (by
        have ho := (Only.set wr w.heap.size 0 (.slice A' T'.dirs.length c')).trans (Only.set _ w.heap.size 1 (.slice D' T'.leaves.length d'))
        exact ⟨A', c', D', d', rfl, HOW.out.kept1 HA.out.res ho, below_set (below_set HA.out.below (Nat.le_refl _) _) (Nat.le_refl _) _⟩)
      have HZ := Lib.hid (Blk.set (Blk.set HA.out.res 0 (.slice A' T'.dirs.length c')) 1 (.slice D' T'.leaves.length d'))
      clear HOW
      go_wp2_with fail
      clear r0 r1 s0 s1 o0 o1'
      revert HX HZ
      generalize ((World.setCell _ _ _).setCell _ _) = wz
      intro HX HZ
      have z0 := HZ.out.cell 0 _ rfl
      have z1 := HZ.out.cell 1 _ rfl
      exact bodyPost_ret (v := .tuple #[.agg #[.slice A' T'.dirs.length c', .slice D' T'.leaves.length d'], .bool true]) (by simp [results, Try.results15, go_sem, z0, z1]) rfl HX.out
end Go.Proofs.Ytaamjnpknmimmab.L4
